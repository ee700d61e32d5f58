/- The examples of the chapter. -/
import Derived.Test.YtigaijigdellpaaDoorCelKo
namespace Go.Proofs.YtigaijigdellpaaDoor
open Go.RowKit
set_option linter.unusedVariables false
set_option linter.unusedSimpArgs false

set_option maxHeartbeats 20000000 in
set_option maxRecDepth 100000 in
theorem known4_any (w : World) (ht : Tabs w) : Calls Tryd.prog 13 #[] w fun e w' => e = .returned (.bool true) ∧ Kept [] w w' := by
  have ht0 := hide ht
  clear ht
  go_enter Tryd.func13, Tryd.ntmps13
  go_upto_region 2 with fail
  obtain ⟨W1, hW1⟩ : ∃ z : World, z = w.alloc (.cells #[.int .i64 zeroP.f.k, .int .u8 zeroP.f.i, .int .u8 zeroP.f.r, .int .u8 zeroP.f.g, .int .u8 zeroP.f.b, .int .i64 zeroP.b.k, .int .u8 zeroP.b.i, .int .u8 zeroP.b.r, .int .u8 zeroP.b.g, .int .u8 zeroP.b.b, .int .u8 zeroP.fl] 27) := ⟨_, rfl⟩
  have hK1 : Kept [] w W1 := by rw [hW1]; exact (Kept.refl [] w).alloc _
  have hp1 : PenIn W1 w.heap.size zeroP := by rw [hW1]; exact PenIn.new w zeroP
  change Code.wp _ _ _ _ (w.alloc (.cells #[.int .i64 zeroP.f.k, .int .u8 zeroP.f.i, .int .u8 zeroP.f.r, .int .u8 zeroP.f.g, .int .u8 zeroP.f.b, .int .i64 zeroP.b.k, .int .u8 zeroP.b.i, .int .u8 zeroP.b.r, .int .u8 zeroP.b.g, .int .u8 zeroP.b.b, .int .u8 zeroP.fl] 27))
  rw [← hW1]
  clear hW1
  generalize hb1 : w.heap.size = b1 at *
  clear hb1
  have hz : PenIn (W1.alloc (.cells #[.int .i64 zeroP.f.k, .int .u8 zeroP.f.i, .int .u8 zeroP.f.r, .int .u8 zeroP.f.g, .int .u8 zeroP.f.b, .int .i64 zeroP.b.k, .int .u8 zeroP.b.i, .int .u8 zeroP.b.r, .int .u8 zeroP.b.g, .int .u8 zeroP.b.b, .int .u8 zeroP.fl] 27)) W1.heap.size zeroP := heap_alloc_new W1 _
  go_upto_region 3 with (refine wpList_store_pen rfl rfl rfl W1.heap.size rfl hz bP rfl ?_; intro W2 hp2 hj2)
  have hk2 : Kept [] W1 W2 := ((Kept.refl [] W1).alloc _).trans hj2 (by intro z hz; simp at hz; omega)
  have hp1 := hp1.kept hk2 (by simp)
  have hK2 := hK1.trans hk2 (by simp)
  clear hz hj2 hk2 hK1
  generalize hb2 : W1.heap.size = b2 at *
  clear hb2
  obtain ⟨W3, hW3⟩ : ∃ z : World, z = ((W2.alloc (.cells #[.int .i32 0, .int .i32 0, .int .i32 0, .int .i32 0, .int .i64 0, .int .i64 0, .int .u8 0, .int .u8 0, .int .u8 0, .int .u8 0, .int .i64 0, .int .u8 0, .int .u8 0, .int .u8 0, .int .u8 0, .int .u8 0] 30)).alloc (.cells #[.int .i32 0, .int .i32 0, .int .i32 0, .int .i32 0, .int .i64 0, .int .i64 0, .int .u8 0, .int .u8 0, .int .u8 0, .int .u8 0, .int .i64 0, .int .u8 0, .int .u8 0, .int .u8 0, .int .u8 0, .int .u8 0] 30)).alloc (.cells #[.int .i32 0, .int .i32 0, .int .i32 0, .int .i32 0, .int .i64 0, .int .i64 0, .int .u8 0, .int .u8 0, .int .u8 0, .int .u8 0, .int .i64 0, .int .u8 0, .int .u8 0, .int .u8 0, .int .u8 0, .int .u8 0] 30) := ⟨_, rfl⟩
  have hk3 : Kept [] W2 W3 := by rw [hW3]; exact (((Kept.refl [] W2).alloc _).alloc _).alloc _
  have hz3 : CelIn W3 W2.heap.size zeroK := by rw [hW3]; exact CelIn.kept (heap_alloc_new W2 _) (((Kept.refl [] _).alloc _).alloc _) (by simp)
  have hz4 : CelIn W3 (W2.heap.size + 1) zeroK := by rw [hW3]; exact CelIn.kept (heap_new_at (by simp)) ((Kept.refl [] _).alloc _) (by simp)
  have hz5 : CelIn W3 (W2.heap.size + 1 + 1) zeroK := by rw [hW3]; exact heap_new_at (by simp)
  go_upto_region 4 with (first
    | (refine wpList_store_cel rfl rfl rfl (W2.heap.size + 1 + 1) rfl hz5b (blankC zeroP) rfl ?_; intro W6 hc5 hj6)
    | (refine wpList_store_cel rfl rfl rfl (W2.heap.size + 1) rfl hz4b wdC rfl ?_; intro W5 hc4 hj5; have hz5b := hz5a.kept hj5 (by simp))
    | (rw [← hW3]; refine wpList_store_cel rfl rfl rfl W2.heap.size rfl hz3 aC rfl ?_; intro W4 hc3 hj4; have hz4b := hz4.kept hj4 (by simp); have hz5a := hz5.kept hj4 (by simp <;> omega)))
  have hs3 := hk3.size
  have hk4 : Kept [] W2 W4 := hk3.trans hj4 (by intro z hz; simp at hz; omega)
  have hk5 : Kept [] W2 W5 := hk4.trans hj5 (by intro z hz; simp at hz; omega)
  have hk6 : Kept [] W2 W6 := hk5.trans hj6 (by intro z hz; simp at hz; omega)
  have hp1 := hp1.kept hk6 (by simp)
  have hp2 := hp2.kept hk6 (by simp)
  have hc3 := (hc3.kept hj5 (by simp)).kept hj6 (by simp <;> omega)
  have hc4 := hc4.kept hj6 (by simp)
  have hK6 := hK2.trans hk6 (by simp)
  clear hW3 hk3 hz3 hz4 hz5 hz4b hz5a hz5b hj4 hj5 hj6 hk4 hk5 hk6 hs3 hK2
  generalize hb3 : W2.heap.size = b3 at *
  generalize hb4 : b3 + 1 = b4 at *
  generalize hb5 : b4 + 1 = b5 at *
  clear hb3 hb4 hb5
  have r4 := hc4.range
  have l1 := hp1.lt
  have l2 := hp2.lt
  have l3 := hc3.lt
  have l4 := hc4.lt
  have l5 := hc5.lt
  have hz6 : CelIn (W6.alloc (.cells #[.int .i32 0, .int .i32 0, .int .i32 0, .int .i32 0, .int .i64 0, .int .i64 0, .int .u8 0, .int .u8 0, .int .u8 0, .int .u8 0, .int .i64 0, .int .u8 0, .int .u8 0, .int .u8 0, .int .u8 0, .int .u8 0] 30)) W6.heap.size zeroK := heap_alloc_new W6 _
  go_upto_region 5 with (first
    | (refine wpList_load_cel rfl rfl b4 0 rfl r4 ?_)
    | (refine wpList_store_cel rfl rfl rfl W6.heap.size rfl hz6 wdC rfl ?_; intro W7 hc6 hj7))
  have hk7 : Kept [] W6 W7 := ((Kept.refl [] W6).alloc _).trans hj7 (by intro z hz; simp at hz; omega)
  have rp2 := (hp2.kept hk7 (by simp)).range
  go_upto_region 6 with (first
    | (refine wpList_load_pen rfl rfl b2 0 rfl rp2 ?_)
    | (refine wpList_store_celP rfl rfl rfl W6.heap.size rfl hc6 bP rfl ?_; intro W8 hc6b hj8))
  have hp1 := (hp1.kept hk7 (by simp)).kept hj8 (by simp; omega)
  have hp2 := (hp2.kept hk7 (by simp)).kept hj8 (by simp; omega)
  have hc3 := (hc3.kept hk7 (by simp)).kept hj8 (by simp; omega)
  have hc4 := (hc4.kept hk7 (by simp)).kept hj8 (by simp; omega)
  have hc5 := (hc5.kept hk7 (by simp)).kept hj8 (by simp; omega)
  have hc6 : CelIn W8 W6.heap.size boldC := hc6b
  have hK8 := (hK6.trans hk7 (by simp)).trans hj8 (by intro z hz; simp at hz; have := hK6.size; exact .inr (by omega))
  clear hj8 hk7 hj7 hz6 r4 rp2 l1 l2 l3 l4 l5 hc6b hK6
  generalize hb6 : W6.heap.size = b6 at *
  clear hb6
  have rp2 := hp2.range
  have hz7 : CelIn (W8.alloc (.cells #[.int .i32 0, .int .i32 0, .int .i32 0, .int .i32 0, .int .i64 0, .int .i64 0, .int .u8 0, .int .u8 0, .int .u8 0, .int .u8 0, .int .i64 0, .int .u8 0, .int .u8 0, .int .u8 0, .int .u8 0, .int .u8 0] 30)) W8.heap.size zeroK := heap_alloc_new W8 _
  go_upto_region 7 with (first
    | (refine wpList_load_pen rfl rfl b2 0 rfl rp2 ?_)
    | (refine wpList_store_cel rfl rfl rfl W8.heap.size rfl hz7 (spacerC bP) rfl ?_; intro W9 hc7 hj9))
  have hk9 : Kept [] W8 W9 := ((Kept.refl [] W8).alloc _).trans hj9 (by intro z hz; simp at hz; omega)
  have hN9 := hide (KnA.mk (hp1.kept hk9 (by simp)) (hp2.kept hk9 (by simp)) (hc3.kept hk9 (by simp)) (hc4.kept hk9 (by simp)) (hc5.kept hk9 (by simp)) (hc6.kept hk9 (by simp)) hc7)
  have hK9 := hide (hK8.trans hk9 (by simp))
  clear hp1 hp2 hc3 hc4 hc5 hc6 hc7 hk9 hj9 hz7 rp2 hK8
  generalize hb7 : W8.heap.size = b7 at *
  clear hb7
  have rp1 := hN9.out.p1.range
  have rp2 := hN9.out.p2.range
  have rc3 := hN9.out.c3.range
  have rc4 := hN9.out.c4.range
  have rc5 := hN9.out.c5.range
  have rc6 := hN9.out.c6.range
  have rc7 := hN9.out.c7.range
  go_wp2_with (first | refine wpList_load_penW rfl (by rfl) b1 0 rfl rp1 ?_ | refine wpList_load_penW rfl (by rfl) b2 0 rfl rp2 ?_ | refine wpList_load_celW rfl (by rfl) b3 0 rfl rc3 ?_ | refine wpList_load_celW rfl (by rfl) b4 0 rfl rc4 ?_ | refine wpList_load_celW rfl (by rfl) b5 0 rfl rc5 ?_ | refine wpList_load_celW rfl (by rfl) b6 0 rfl rc6 ?_ | refine wpList_load_celW rfl (by rfl) b7 0 rfl rc7 ?_)
  refine (of_ask 97 zeroP 0 (some ⟨W9.heap.size, 0, none⟩) 1 1 [aC] true (by decide +kernel) _ (ht0.out.kept (hK9.out.alloc _)) (Rd.blockC (heap_alloc_new W9 _) rfl)).mono ?_
  rintro e W10 ⟨rfl, hj10⟩
  have hk10 : Kept [] W9 W10 := ((Kept.refl [] W9).alloc _).trans hj10 (by simp)
  have hN10 := hide (hN9.out.kept hk10)
  have hK10 := hide (hK9.out.trans hk10 (by simp))
  clear hj10 hk10 hN9 hK9
  clear rp1 rp2 rc3 rc4 rc5 rc6 rc7
  have rp1 := hN10.out.p1.range
  have rp2 := hN10.out.p2.range
  have rc3 := hN10.out.c3.range
  have rc4 := hN10.out.c4.range
  have rc5 := hN10.out.c5.range
  have rc6 := hN10.out.c6.range
  have rc7 := hN10.out.c7.range
  go_wp2_with (first | refine wpList_load_penW rfl (by rfl) b1 0 rfl rp1 ?_ | refine wpList_load_penW rfl (by rfl) b2 0 rfl rp2 ?_ | refine wpList_load_celW rfl (by rfl) b3 0 rfl rc3 ?_ | refine wpList_load_celW rfl (by rfl) b4 0 rfl rc4 ?_ | refine wpList_load_celW rfl (by rfl) b5 0 rfl rc5 ?_ | refine wpList_load_celW rfl (by rfl) b6 0 rfl rc6 ?_ | refine wpList_load_celW rfl (by rfl) b7 0 rfl rc7 ?_)
  refine (of_ask 19968 bP 0 (some ⟨W10.heap.size, 0, none⟩) 2 2 [boldC, spacerC bP] true (by decide +kernel) _ (ht0.out.kept (hK10.out.alloc _)) (Rd.blockC (heap_alloc_new W10 _) rfl)).mono ?_
  rintro e W11 ⟨rfl, hj11⟩
  have hk11 : Kept [] W10 W11 := ((Kept.refl [] W10).alloc _).trans hj11 (by simp)
  have hN11 := hide (hN10.out.kept hk11)
  have hK11 := hide (hK10.out.trans hk11 (by simp))
  clear hj11 hk11 hN10 hK10
  clear rp1 rp2 rc3 rc4 rc5 rc6 rc7
  have rp1 := hN11.out.p1.range
  have rp2 := hN11.out.p2.range
  have rc3 := hN11.out.c3.range
  have rc4 := hN11.out.c4.range
  have rc5 := hN11.out.c5.range
  have rc6 := hN11.out.c6.range
  have rc7 := hN11.out.c7.range
  go_wp2_with (first | refine wpList_load_penW rfl (by rfl) b1 0 rfl rp1 ?_ | refine wpList_load_penW rfl (by rfl) b2 0 rfl rp2 ?_ | refine wpList_load_celW rfl (by rfl) b3 0 rfl rc3 ?_ | refine wpList_load_celW rfl (by rfl) b4 0 rfl rc4 ?_ | refine wpList_load_celW rfl (by rfl) b5 0 rfl rc5 ?_ | refine wpList_load_celW rfl (by rfl) b6 0 rfl rc6 ?_ | refine wpList_load_celW rfl (by rfl) b7 0 rfl rc7 ?_)
  refine (of_ask 769 zeroP 2 none 0 0 [] true (by decide +kernel) _ (ht0.out.kept hK11.out) (Rd.nil _ _ _)).mono ?_
  rintro e W12 ⟨rfl, hj12⟩
  have hk12 : Kept [] W11 W12 := (Kept.refl [] W11).trans hj12 (by simp)
  have hN12 := hide (hN11.out.kept hk12)
  have hK12 := hide (hK11.out.trans hk12 (by simp))
  clear hj12 hk12 hN11 hK11
  clear rp1 rp2 rc3 rc4 rc5 rc6 rc7
  have rp1 := hN12.out.p1.range
  have rp2 := hN12.out.p2.range
  have rc3 := hN12.out.c3.range
  have rc4 := hN12.out.c4.range
  have rc5 := hN12.out.c5.range
  have rc6 := hN12.out.c6.range
  have rc7 := hN12.out.c7.range
  go_wp2_with (first | refine wpList_load_penW rfl (by rfl) b1 0 rfl rp1 ?_ | refine wpList_load_penW rfl (by rfl) b2 0 rfl rp2 ?_ | refine wpList_load_celW rfl (by rfl) b3 0 rfl rc3 ?_ | refine wpList_load_celW rfl (by rfl) b4 0 rfl rc4 ?_ | refine wpList_load_celW rfl (by rfl) b5 0 rfl rc5 ?_ | refine wpList_load_celW rfl (by rfl) b6 0 rfl rc6 ?_ | refine wpList_load_celW rfl (by rfl) b7 0 rfl rc7 ?_)
  refine (of_ask 7 zeroP 2 none 0 0 [] true (by decide +kernel) _ (ht0.out.kept hK12.out) (Rd.nil _ _ _)).mono ?_
  rintro e W13 ⟨rfl, hj13⟩
  have hk13 : Kept [] W12 W13 := (Kept.refl [] W12).trans hj13 (by simp)
  have hN13 := hide (hN12.out.kept hk13)
  have hK13 := hide (hK12.out.trans hk13 (by simp))
  clear hj13 hk13 hN12 hK12
  clear rp1 rp2 rc3 rc4 rc5 rc6 rc7
  have rp1 := hN13.out.p1.range
  have rp2 := hN13.out.p2.range
  have rc3 := hN13.out.c3.range
  have rc4 := hN13.out.c4.range
  have rc5 := hN13.out.c5.range
  have rc6 := hN13.out.c6.range
  have rc7 := hN13.out.c7.range
  go_upto_region 9 with fail
  clear rp1 rp2 rc3 rc4 rc5 rc6 rc7
  go_cut [8, 9, 10] from 12 (fun s8 s9 s10 wc => ∃ B8 B9 B10 : Nat, s8 = .pointer (some ⟨B8, 0, none⟩) ∧ s9 = .pointer (some ⟨B9, 0, none⟩) ∧ s10 = .pointer (some ⟨B10, 0, none⟩) ∧ CelIn wc B8 aC ∧ CelIn wc B9 aC ∧ CelIn wc B10 aC ∧ B8 ≠ B9 ∧ B8 ≠ B10 ∧ B9 ≠ B10 ∧ W13.heap.size ≤ B8 ∧ W13.heap.size ≤ B9 ∧ W13.heap.size ≤ B10 ∧ Kept [] W13 wc)
  case first =>
    refine wp_region_held_drew (S := (fun w' => CelIn w' b3 aC)) (by kernel_rfl) ?_ (fun hHeld => ?_)
    · (try dsimp only); (first | exact hN13.out.c3.kept k3 (by simp) | exact hN13.out.c3.kept k2 (by simp) | exact hN13.out.c3.kept k1 (by simp) | exact hN13.out.c3.kept ((((Kept.refl [] W13).alloc _).alloc _).alloc _).drew (by simp) | exact hN13.out.c3.kept (((Kept.refl [] W13).alloc _).alloc _).drew (by simp) | exact hN13.out.c3.kept ((Kept.refl [] W13).alloc _).drew (by simp) | exact hN13.out.c3.kept (Kept.refl [] W13).drew (by simp))
    refine wpAnyH_take (i := 0) (v := (.agg #[.int .i32 aC.r, .int .i32 aC.m0, .int .i32 aC.m1, .int .i32 aC.m2, .int .i64 aC.w, .int .i64 aC.p.f.k, .int .u8 aC.p.f.i, .int .u8 aC.p.f.r, .int .u8 aC.p.f.g, .int .u8 aC.p.f.b, .int .i64 aC.p.b.k, .int .u8 aC.p.b.i, .int .u8 aC.p.b.r, .int .u8 aC.p.b.g, .int .u8 aC.p.b.b, .int .u8 aC.p.fl])) rfl (by kernel_rfl) (by kernel_rfl) (by kernel_rfl) (fun _ _ _ h => h) (yieldsIf_load_mid (by rfl) 30 _ rfl b3 0 rfl (kcL aC) _ (fun _ h => h.range) Tryd.underlying30 rfl (by kernel_rfl)) (by assumption) ?_
    try simp only [Act.put, List.getElem_toArray, List.getElem_cons_zero, List.setIfInBounds_toArray, List.set_cons_zero, List.set_cons_succ]
    refine wpAnyH_take (i := 1) (v := (.agg #[.int .i32 aC.r, .int .i32 aC.m0, .int .i32 aC.m1, .int .i32 aC.m2, .int .i64 aC.w, .int .i64 aC.p.f.k, .int .u8 aC.p.f.i, .int .u8 aC.p.f.r, .int .u8 aC.p.f.g, .int .u8 aC.p.f.b, .int .i64 aC.p.b.k, .int .u8 aC.p.b.i, .int .u8 aC.p.b.r, .int .u8 aC.p.b.g, .int .u8 aC.p.b.b, .int .u8 aC.p.fl])) rfl (by kernel_rfl) (by kernel_rfl) (by kernel_rfl) (fun _ _ _ h => h) (yieldsIf_load_mid (by rfl) 30 _ rfl b3 0 rfl (kcL aC) _ (fun _ h => h.range) Tryd.underlying30 rfl (by kernel_rfl)) (by assumption) ?_
    try simp only [Act.put, List.getElem_toArray, List.getElem_cons_succ, List.getElem_cons_zero, List.setIfInBounds_toArray, List.set_cons_zero, List.set_cons_succ]
    refine wpAnyH_take (i := 2) (v := (.agg #[.int .i32 aC.r, .int .i32 aC.m0, .int .i32 aC.m1, .int .i32 aC.m2, .int .i64 aC.w, .int .i64 aC.p.f.k, .int .u8 aC.p.f.i, .int .u8 aC.p.f.r, .int .u8 aC.p.f.g, .int .u8 aC.p.f.b, .int .i64 aC.p.b.k, .int .u8 aC.p.b.i, .int .u8 aC.p.b.r, .int .u8 aC.p.b.g, .int .u8 aC.p.b.b, .int .u8 aC.p.fl])) rfl (by kernel_rfl) (by kernel_rfl) (by kernel_rfl) (fun _ _ _ h => h) (yieldsIf_load_mid (by rfl) 30 _ rfl b3 0 rfl (kcL aC) _ (fun _ h => h.range) Tryd.underlying30 rfl (by kernel_rfl)) (by assumption) ?_
    try simp only [Act.put, List.getElem_toArray, List.getElem_cons_succ, List.getElem_cons_zero, List.setIfInBounds_toArray, List.set_cons_zero, List.set_cons_succ]
    refine wpAnyH_ready (rs := [3, 4, 5]) (by kernel_rfl) (by simp) ?_
    refine AllReadyH.cons rfl (fun K hK => ?_) (AllReadyH.cons rfl (fun K hK => ?_) (AllReadyH.cons rfl (fun K hK => ?_) AllReadyH.nil))
    · go_simp
      try go_wp2_with fail
      refine hK.out _ _ ?_ (fun hHeld => ?_)
      · (try dsimp only); (first | exact hN13.out.c3.kept k3 (by simp) | exact hN13.out.c3.kept k2 (by simp) | exact hN13.out.c3.kept k1 (by simp) | exact hN13.out.c3.kept ((((Kept.refl [] W13).alloc _).alloc _).alloc _).drew (by simp) | exact hN13.out.c3.kept (((Kept.refl [] W13).alloc _).alloc _).drew (by simp) | exact hN13.out.c3.kept ((Kept.refl [] W13).alloc _).drew (by simp) | exact hN13.out.c3.kept (Kept.refl [] W13).drew (by simp))
      clear hK K
      try simp only [Act.put, List.getElem_toArray, List.getElem_cons_succ, List.getElem_cons_zero, List.setIfInBounds_toArray, List.set_cons_zero, List.set_cons_succ]
      refine wpAnyH_ready (rs := [4, 5]) (by kernel_rfl) (by simp) ?_
      refine AllReadyH.cons rfl (fun K hK => ?_) (AllReadyH.cons rfl (fun K hK => ?_) AllReadyH.nil)
      · go_simp
        try go_wp2_with fail
        refine hK.out _ _ ?_ (fun hHeld => ?_)
        · (try dsimp only); (first | exact hN13.out.c3.kept k3 (by simp) | exact hN13.out.c3.kept k2 (by simp) | exact hN13.out.c3.kept k1 (by simp) | exact hN13.out.c3.kept ((((Kept.refl [] W13).alloc _).alloc _).alloc _).drew (by simp) | exact hN13.out.c3.kept (((Kept.refl [] W13).alloc _).alloc _).drew (by simp) | exact hN13.out.c3.kept ((Kept.refl [] W13).alloc _).drew (by simp) | exact hN13.out.c3.kept (Kept.refl [] W13).drew (by simp))
        clear hK K
        try simp only [Act.put, List.getElem_toArray, List.getElem_cons_succ, List.getElem_cons_zero, List.setIfInBounds_toArray, List.set_cons_zero, List.set_cons_succ]
        refine wpAnyH_ready (rs := [5]) (by kernel_rfl) (by simp) ?_
        refine AllReadyH.cons rfl (fun K hK => ?_) AllReadyH.nil
        go_simp
        try go_wp2_with fail
        refine hK.out _ _ ?_ (fun hHeld => ?_)
        · (try dsimp only); (first | exact hN13.out.c3.kept k3 (by simp) | exact hN13.out.c3.kept k2 (by simp) | exact hN13.out.c3.kept k1 (by simp) | exact hN13.out.c3.kept ((((Kept.refl [] W13).alloc _).alloc _).alloc _).drew (by simp) | exact hN13.out.c3.kept (((Kept.refl [] W13).alloc _).alloc _).drew (by simp) | exact hN13.out.c3.kept ((Kept.refl [] W13).alloc _).drew (by simp) | exact hN13.out.c3.kept (Kept.refl [] W13).drew (by simp))
        clear hK K
        try simp only [Act.put, List.getElem_toArray, List.getElem_cons_succ, List.getElem_cons_zero, List.setIfInBounds_toArray, List.set_cons_zero, List.set_cons_succ]
        refine wpAnyH_ready (rs := [6]) (by kernel_rfl) (by simp) ?_
        refine AllReadyH.cons rfl (fun K hK => ?_) AllReadyH.nil
        rw [if_pos (by rfl)]
        have z0 : CelIn (((W13.alloc (.cells #[.int .i32 0, .int .i32 0, .int .i32 0, .int .i32 0, .int .i64 0, .int .i64 0, .int .u8 0, .int .u8 0, .int .u8 0, .int .u8 0, .int .i64 0, .int .u8 0, .int .u8 0, .int .u8 0, .int .u8 0, .int .u8 0] 30)).alloc (.cells #[.int .i32 0, .int .i32 0, .int .i32 0, .int .i32 0, .int .i64 0, .int .i64 0, .int .u8 0, .int .u8 0, .int .u8 0, .int .u8 0, .int .i64 0, .int .u8 0, .int .u8 0, .int .u8 0, .int .u8 0, .int .u8 0] 30)).alloc (.cells #[.int .i32 0, .int .i32 0, .int .i32 0, .int .i32 0, .int .i64 0, .int .i64 0, .int .u8 0, .int .u8 0, .int .u8 0, .int .u8 0, .int .i64 0, .int .u8 0, .int .u8 0, .int .u8 0, .int .u8 0, .int .u8 0] 30)).drew W13.heap.size zeroK := CelIn.kept (w := (W13.alloc (.cells #[.int .i32 0, .int .i32 0, .int .i32 0, .int .i32 0, .int .i64 0, .int .i64 0, .int .u8 0, .int .u8 0, .int .u8 0, .int .u8 0, .int .i64 0, .int .u8 0, .int .u8 0, .int .u8 0, .int .u8 0, .int .u8 0] 30))) (heap_alloc_new W13 _) ((((Kept.refl [] _).alloc _).alloc _).drew) (by simp); have z1 : CelIn (((W13.alloc (.cells #[.int .i32 0, .int .i32 0, .int .i32 0, .int .i32 0, .int .i64 0, .int .i64 0, .int .u8 0, .int .u8 0, .int .u8 0, .int .u8 0, .int .i64 0, .int .u8 0, .int .u8 0, .int .u8 0, .int .u8 0, .int .u8 0] 30)).alloc (.cells #[.int .i32 0, .int .i32 0, .int .i32 0, .int .i32 0, .int .i64 0, .int .i64 0, .int .u8 0, .int .u8 0, .int .u8 0, .int .u8 0, .int .i64 0, .int .u8 0, .int .u8 0, .int .u8 0, .int .u8 0, .int .u8 0] 30)).alloc (.cells #[.int .i32 0, .int .i32 0, .int .i32 0, .int .i32 0, .int .i64 0, .int .i64 0, .int .u8 0, .int .u8 0, .int .u8 0, .int .u8 0, .int .i64 0, .int .u8 0, .int .u8 0, .int .u8 0, .int .u8 0, .int .u8 0] 30)).drew (W13.heap.size + 1) zeroK := CelIn.kept (w := ((W13.alloc (.cells #[.int .i32 0, .int .i32 0, .int .i32 0, .int .i32 0, .int .i64 0, .int .i64 0, .int .u8 0, .int .u8 0, .int .u8 0, .int .u8 0, .int .i64 0, .int .u8 0, .int .u8 0, .int .u8 0, .int .u8 0, .int .u8 0] 30)).alloc (.cells #[.int .i32 0, .int .i32 0, .int .i32 0, .int .i32 0, .int .i64 0, .int .i64 0, .int .u8 0, .int .u8 0, .int .u8 0, .int .u8 0, .int .i64 0, .int .u8 0, .int .u8 0, .int .u8 0, .int .u8 0, .int .u8 0] 30))) (heap_new_at (by simp)) (((Kept.refl [] _).alloc _).drew) (by simp); have z2 : CelIn (((W13.alloc (.cells #[.int .i32 0, .int .i32 0, .int .i32 0, .int .i32 0, .int .i64 0, .int .i64 0, .int .u8 0, .int .u8 0, .int .u8 0, .int .u8 0, .int .i64 0, .int .u8 0, .int .u8 0, .int .u8 0, .int .u8 0, .int .u8 0] 30)).alloc (.cells #[.int .i32 0, .int .i32 0, .int .i32 0, .int .i32 0, .int .i64 0, .int .i64 0, .int .u8 0, .int .u8 0, .int .u8 0, .int .u8 0, .int .i64 0, .int .u8 0, .int .u8 0, .int .u8 0, .int .u8 0, .int .u8 0] 30)).alloc (.cells #[.int .i32 0, .int .i32 0, .int .i32 0, .int .i32 0, .int .i64 0, .int .i64 0, .int .u8 0, .int .u8 0, .int .u8 0, .int .u8 0, .int .i64 0, .int .u8 0, .int .u8 0, .int .u8 0, .int .u8 0, .int .u8 0] 30)).drew (W13.heap.size + 1 + 1) zeroK := CelIn.kept (w := (((W13.alloc (.cells #[.int .i32 0, .int .i32 0, .int .i32 0, .int .i32 0, .int .i64 0, .int .i64 0, .int .u8 0, .int .u8 0, .int .u8 0, .int .u8 0, .int .i64 0, .int .u8 0, .int .u8 0, .int .u8 0, .int .u8 0, .int .u8 0] 30)).alloc (.cells #[.int .i32 0, .int .i32 0, .int .i32 0, .int .i32 0, .int .i64 0, .int .i64 0, .int .u8 0, .int .u8 0, .int .u8 0, .int .u8 0, .int .i64 0, .int .u8 0, .int .u8 0, .int .u8 0, .int .u8 0, .int .u8 0] 30)).alloc (.cells #[.int .i32 0, .int .i32 0, .int .i32 0, .int .i32 0, .int .i64 0, .int .i64 0, .int .u8 0, .int .u8 0, .int .u8 0, .int .u8 0, .int .i64 0, .int .u8 0, .int .u8 0, .int .u8 0, .int .u8 0, .int .u8 0] 30))) (heap_new_at (by simp)) ((Kept.refl [] _).drew) (by simp); refine wp_store_cel rfl rfl W13.heap.size rfl z0 aC rfl ?_; intro V1 h1 j1; have k1 : Kept [] W13 V1 := (((((Kept.refl [] W13).alloc _).alloc _).alloc _).drew).trans j1 (by intro z hz; simp at hz; exact .inr (by omega)); have y1 := z1.kept j1 (by simp <;> omega); have y2 := z2.kept j1 (by simp <;> omega); clear z0 z1 z2
        refine hK.out _ _ ?_ (fun hHeld => ?_)
        · (try dsimp only); (first | exact hN13.out.c3.kept k3 (by simp) | exact hN13.out.c3.kept k2 (by simp) | exact hN13.out.c3.kept k1 (by simp) | exact hN13.out.c3.kept ((((Kept.refl [] W13).alloc _).alloc _).alloc _).drew (by simp) | exact hN13.out.c3.kept (((Kept.refl [] W13).alloc _).alloc _).drew (by simp) | exact hN13.out.c3.kept ((Kept.refl [] W13).alloc _).drew (by simp) | exact hN13.out.c3.kept (Kept.refl [] W13).drew (by simp))
        clear hK K
        try simp only [Act.put, List.getElem_toArray, List.getElem_cons_succ, List.getElem_cons_zero, List.setIfInBounds_toArray, List.set_cons_zero, List.set_cons_succ]
        refine wpAnyH_ready (rs := [7]) (by kernel_rfl) (by simp) ?_
        refine AllReadyH.cons rfl (fun K hK => ?_) AllReadyH.nil
        rw [if_pos (by rfl)]
        refine wp_store_cel rfl rfl (W13.heap.size + 1) rfl y1 aC rfl ?_; intro V2 h2 j2; have k2 : Kept [] W13 V2 := k1.trans j2 (by intro z hz; simp at hz; exact .inr (by omega)); have g1 := h1.kept j2 (by simp <;> omega); have x2 := y2.kept j2 (by simp <;> omega)
        refine hK.out _ _ ?_ (fun hHeld => ?_)
        · (try dsimp only); (first | exact hN13.out.c3.kept k3 (by simp) | exact hN13.out.c3.kept k2 (by simp) | exact hN13.out.c3.kept k1 (by simp) | exact hN13.out.c3.kept ((((Kept.refl [] W13).alloc _).alloc _).alloc _).drew (by simp) | exact hN13.out.c3.kept (((Kept.refl [] W13).alloc _).alloc _).drew (by simp) | exact hN13.out.c3.kept ((Kept.refl [] W13).alloc _).drew (by simp) | exact hN13.out.c3.kept (Kept.refl [] W13).drew (by simp))
        clear hK K
        try simp only [Act.put, List.getElem_toArray, List.getElem_cons_succ, List.getElem_cons_zero, List.setIfInBounds_toArray, List.set_cons_zero, List.set_cons_succ]
        refine wpAnyH_ready (rs := [8]) (by kernel_rfl) (by simp) ?_
        refine AllReadyH.cons rfl (fun K hK => ?_) AllReadyH.nil
        rw [if_pos (by rfl)]
        refine wp_store_cel rfl rfl (W13.heap.size + 1 + 1) rfl x2 aC rfl ?_; intro V3 h3 j3; have k3 : Kept [] W13 V3 := k2.trans j3 (by intro z hz; simp at hz; exact .inr (by omega)); have f1 := g1.kept j3 (by simp <;> omega); have f2 := h2.kept j3 (by simp <;> omega)
        refine hK.out _ _ ?_ (fun hHeld => ?_)
        · (try dsimp only); (first | exact hN13.out.c3.kept k3 (by simp) | exact hN13.out.c3.kept k2 (by simp) | exact hN13.out.c3.kept k1 (by simp) | exact hN13.out.c3.kept ((((Kept.refl [] W13).alloc _).alloc _).alloc _).drew (by simp) | exact hN13.out.c3.kept (((Kept.refl [] W13).alloc _).alloc _).drew (by simp) | exact hN13.out.c3.kept ((Kept.refl [] W13).alloc _).drew (by simp) | exact hN13.out.c3.kept (Kept.refl [] W13).drew (by simp))
        clear hK K
        try simp only [Act.put, List.getElem_toArray, List.getElem_cons_succ, List.getElem_cons_zero, List.setIfInBounds_toArray, List.set_cons_zero, List.set_cons_succ]
        refine wpAnyH_done (by kernel_rfl) ?_ _
        go_wp2_with fail; go_meet; exact ⟨_, _, _, rfl, rfl, rfl, f1, f2, h3, by simp <;> omega, by simp <;> omega, by simp <;> omega, by omega, by omega, by omega, k3⟩
      · go_simp
        try go_wp2_with fail
        refine hK.out _ _ ?_ (fun hHeld => ?_)
        · (try dsimp only); (first | exact hN13.out.c3.kept k3 (by simp) | exact hN13.out.c3.kept k2 (by simp) | exact hN13.out.c3.kept k1 (by simp) | exact hN13.out.c3.kept ((((Kept.refl [] W13).alloc _).alloc _).alloc _).drew (by simp) | exact hN13.out.c3.kept (((Kept.refl [] W13).alloc _).alloc _).drew (by simp) | exact hN13.out.c3.kept ((Kept.refl [] W13).alloc _).drew (by simp) | exact hN13.out.c3.kept (Kept.refl [] W13).drew (by simp))
        clear hK K
        try simp only [Act.put, List.getElem_toArray, List.getElem_cons_succ, List.getElem_cons_zero, List.setIfInBounds_toArray, List.set_cons_zero, List.set_cons_succ]
        refine wpAnyH_ready (rs := [4]) (by kernel_rfl) (by simp) ?_
        refine AllReadyH.cons rfl (fun K hK => ?_) AllReadyH.nil
        go_simp
        try go_wp2_with fail
        refine hK.out _ _ ?_ (fun hHeld => ?_)
        · (try dsimp only); (first | exact hN13.out.c3.kept k3 (by simp) | exact hN13.out.c3.kept k2 (by simp) | exact hN13.out.c3.kept k1 (by simp) | exact hN13.out.c3.kept ((((Kept.refl [] W13).alloc _).alloc _).alloc _).drew (by simp) | exact hN13.out.c3.kept (((Kept.refl [] W13).alloc _).alloc _).drew (by simp) | exact hN13.out.c3.kept ((Kept.refl [] W13).alloc _).drew (by simp) | exact hN13.out.c3.kept (Kept.refl [] W13).drew (by simp))
        clear hK K
        try simp only [Act.put, List.getElem_toArray, List.getElem_cons_succ, List.getElem_cons_zero, List.setIfInBounds_toArray, List.set_cons_zero, List.set_cons_succ]
        refine wpAnyH_ready (rs := [6]) (by kernel_rfl) (by simp) ?_
        refine AllReadyH.cons rfl (fun K hK => ?_) AllReadyH.nil
        rw [if_pos (by rfl)]
        have z0 : CelIn (((W13.alloc (.cells #[.int .i32 0, .int .i32 0, .int .i32 0, .int .i32 0, .int .i64 0, .int .i64 0, .int .u8 0, .int .u8 0, .int .u8 0, .int .u8 0, .int .i64 0, .int .u8 0, .int .u8 0, .int .u8 0, .int .u8 0, .int .u8 0] 30)).alloc (.cells #[.int .i32 0, .int .i32 0, .int .i32 0, .int .i32 0, .int .i64 0, .int .i64 0, .int .u8 0, .int .u8 0, .int .u8 0, .int .u8 0, .int .i64 0, .int .u8 0, .int .u8 0, .int .u8 0, .int .u8 0, .int .u8 0] 30)).alloc (.cells #[.int .i32 0, .int .i32 0, .int .i32 0, .int .i32 0, .int .i64 0, .int .i64 0, .int .u8 0, .int .u8 0, .int .u8 0, .int .u8 0, .int .i64 0, .int .u8 0, .int .u8 0, .int .u8 0, .int .u8 0, .int .u8 0] 30)).drew W13.heap.size zeroK := CelIn.kept (w := (W13.alloc (.cells #[.int .i32 0, .int .i32 0, .int .i32 0, .int .i32 0, .int .i64 0, .int .i64 0, .int .u8 0, .int .u8 0, .int .u8 0, .int .u8 0, .int .i64 0, .int .u8 0, .int .u8 0, .int .u8 0, .int .u8 0, .int .u8 0] 30))) (heap_alloc_new W13 _) ((((Kept.refl [] _).alloc _).alloc _).drew) (by simp); have z1 : CelIn (((W13.alloc (.cells #[.int .i32 0, .int .i32 0, .int .i32 0, .int .i32 0, .int .i64 0, .int .i64 0, .int .u8 0, .int .u8 0, .int .u8 0, .int .u8 0, .int .i64 0, .int .u8 0, .int .u8 0, .int .u8 0, .int .u8 0, .int .u8 0] 30)).alloc (.cells #[.int .i32 0, .int .i32 0, .int .i32 0, .int .i32 0, .int .i64 0, .int .i64 0, .int .u8 0, .int .u8 0, .int .u8 0, .int .u8 0, .int .i64 0, .int .u8 0, .int .u8 0, .int .u8 0, .int .u8 0, .int .u8 0] 30)).alloc (.cells #[.int .i32 0, .int .i32 0, .int .i32 0, .int .i32 0, .int .i64 0, .int .i64 0, .int .u8 0, .int .u8 0, .int .u8 0, .int .u8 0, .int .i64 0, .int .u8 0, .int .u8 0, .int .u8 0, .int .u8 0, .int .u8 0] 30)).drew (W13.heap.size + 1) zeroK := CelIn.kept (w := ((W13.alloc (.cells #[.int .i32 0, .int .i32 0, .int .i32 0, .int .i32 0, .int .i64 0, .int .i64 0, .int .u8 0, .int .u8 0, .int .u8 0, .int .u8 0, .int .i64 0, .int .u8 0, .int .u8 0, .int .u8 0, .int .u8 0, .int .u8 0] 30)).alloc (.cells #[.int .i32 0, .int .i32 0, .int .i32 0, .int .i32 0, .int .i64 0, .int .i64 0, .int .u8 0, .int .u8 0, .int .u8 0, .int .u8 0, .int .i64 0, .int .u8 0, .int .u8 0, .int .u8 0, .int .u8 0, .int .u8 0] 30))) (heap_new_at (by simp)) (((Kept.refl [] _).alloc _).drew) (by simp); have z2 : CelIn (((W13.alloc (.cells #[.int .i32 0, .int .i32 0, .int .i32 0, .int .i32 0, .int .i64 0, .int .i64 0, .int .u8 0, .int .u8 0, .int .u8 0, .int .u8 0, .int .i64 0, .int .u8 0, .int .u8 0, .int .u8 0, .int .u8 0, .int .u8 0] 30)).alloc (.cells #[.int .i32 0, .int .i32 0, .int .i32 0, .int .i32 0, .int .i64 0, .int .i64 0, .int .u8 0, .int .u8 0, .int .u8 0, .int .u8 0, .int .i64 0, .int .u8 0, .int .u8 0, .int .u8 0, .int .u8 0, .int .u8 0] 30)).alloc (.cells #[.int .i32 0, .int .i32 0, .int .i32 0, .int .i32 0, .int .i64 0, .int .i64 0, .int .u8 0, .int .u8 0, .int .u8 0, .int .u8 0, .int .i64 0, .int .u8 0, .int .u8 0, .int .u8 0, .int .u8 0, .int .u8 0] 30)).drew (W13.heap.size + 1 + 1) zeroK := CelIn.kept (w := (((W13.alloc (.cells #[.int .i32 0, .int .i32 0, .int .i32 0, .int .i32 0, .int .i64 0, .int .i64 0, .int .u8 0, .int .u8 0, .int .u8 0, .int .u8 0, .int .i64 0, .int .u8 0, .int .u8 0, .int .u8 0, .int .u8 0, .int .u8 0] 30)).alloc (.cells #[.int .i32 0, .int .i32 0, .int .i32 0, .int .i32 0, .int .i64 0, .int .i64 0, .int .u8 0, .int .u8 0, .int .u8 0, .int .u8 0, .int .i64 0, .int .u8 0, .int .u8 0, .int .u8 0, .int .u8 0, .int .u8 0] 30)).alloc (.cells #[.int .i32 0, .int .i32 0, .int .i32 0, .int .i32 0, .int .i64 0, .int .i64 0, .int .u8 0, .int .u8 0, .int .u8 0, .int .u8 0, .int .i64 0, .int .u8 0, .int .u8 0, .int .u8 0, .int .u8 0, .int .u8 0] 30))) (heap_new_at (by simp)) ((Kept.refl [] _).drew) (by simp); refine wp_store_cel rfl rfl W13.heap.size rfl z0 aC rfl ?_; intro V1 h1 j1; have k1 : Kept [] W13 V1 := (((((Kept.refl [] W13).alloc _).alloc _).alloc _).drew).trans j1 (by intro z hz; simp at hz; exact .inr (by omega)); have y2 := z2.kept j1 (by simp <;> omega); have y1 := z1.kept j1 (by simp <;> omega); clear z0 z1 z2
        refine hK.out _ _ ?_ (fun hHeld => ?_)
        · (try dsimp only); (first | exact hN13.out.c3.kept k3 (by simp) | exact hN13.out.c3.kept k2 (by simp) | exact hN13.out.c3.kept k1 (by simp) | exact hN13.out.c3.kept ((((Kept.refl [] W13).alloc _).alloc _).alloc _).drew (by simp) | exact hN13.out.c3.kept (((Kept.refl [] W13).alloc _).alloc _).drew (by simp) | exact hN13.out.c3.kept ((Kept.refl [] W13).alloc _).drew (by simp) | exact hN13.out.c3.kept (Kept.refl [] W13).drew (by simp))
        clear hK K
        try simp only [Act.put, List.getElem_toArray, List.getElem_cons_succ, List.getElem_cons_zero, List.setIfInBounds_toArray, List.set_cons_zero, List.set_cons_succ]
        refine wpAnyH_ready (rs := [7]) (by kernel_rfl) (by simp) ?_
        refine AllReadyH.cons rfl (fun K hK => ?_) AllReadyH.nil
        rw [if_pos (by rfl)]
        refine wp_store_cel rfl rfl (W13.heap.size + 1 + 1) rfl y2 aC rfl ?_; intro V2 h2 j2; have k2 : Kept [] W13 V2 := k1.trans j2 (by intro z hz; simp at hz; exact .inr (by omega)); have g1 := h1.kept j2 (by simp <;> omega); have x1 := y1.kept j2 (by simp <;> omega)
        refine hK.out _ _ ?_ (fun hHeld => ?_)
        · (try dsimp only); (first | exact hN13.out.c3.kept k3 (by simp) | exact hN13.out.c3.kept k2 (by simp) | exact hN13.out.c3.kept k1 (by simp) | exact hN13.out.c3.kept ((((Kept.refl [] W13).alloc _).alloc _).alloc _).drew (by simp) | exact hN13.out.c3.kept (((Kept.refl [] W13).alloc _).alloc _).drew (by simp) | exact hN13.out.c3.kept ((Kept.refl [] W13).alloc _).drew (by simp) | exact hN13.out.c3.kept (Kept.refl [] W13).drew (by simp))
        clear hK K
        try simp only [Act.put, List.getElem_toArray, List.getElem_cons_succ, List.getElem_cons_zero, List.setIfInBounds_toArray, List.set_cons_zero, List.set_cons_succ]
        refine wpAnyH_ready (rs := [8]) (by kernel_rfl) (by simp) ?_
        refine AllReadyH.cons rfl (fun K hK => ?_) AllReadyH.nil
        rw [if_pos (by rfl)]
        refine wp_store_cel rfl rfl (W13.heap.size + 1) rfl x1 aC rfl ?_; intro V3 h3 j3; have k3 : Kept [] W13 V3 := k2.trans j3 (by intro z hz; simp at hz; exact .inr (by omega)); have f1 := g1.kept j3 (by simp <;> omega); have f2 := h2.kept j3 (by simp <;> omega)
        refine hK.out _ _ ?_ (fun hHeld => ?_)
        · (try dsimp only); (first | exact hN13.out.c3.kept k3 (by simp) | exact hN13.out.c3.kept k2 (by simp) | exact hN13.out.c3.kept k1 (by simp) | exact hN13.out.c3.kept ((((Kept.refl [] W13).alloc _).alloc _).alloc _).drew (by simp) | exact hN13.out.c3.kept (((Kept.refl [] W13).alloc _).alloc _).drew (by simp) | exact hN13.out.c3.kept ((Kept.refl [] W13).alloc _).drew (by simp) | exact hN13.out.c3.kept (Kept.refl [] W13).drew (by simp))
        clear hK K
        try simp only [Act.put, List.getElem_toArray, List.getElem_cons_succ, List.getElem_cons_zero, List.setIfInBounds_toArray, List.set_cons_zero, List.set_cons_succ]
        refine wpAnyH_done (by kernel_rfl) ?_ _
        go_wp2_with fail; go_meet; exact ⟨_, _, _, rfl, rfl, rfl, f1, f2, h3, by simp <;> omega, by simp <;> omega, by simp <;> omega, by omega, by omega, by omega, k3⟩
    · go_simp
      try go_wp2_with fail
      refine hK.out _ _ ?_ (fun hHeld => ?_)
      · (try dsimp only); (first | exact hN13.out.c3.kept k3 (by simp) | exact hN13.out.c3.kept k2 (by simp) | exact hN13.out.c3.kept k1 (by simp) | exact hN13.out.c3.kept ((((Kept.refl [] W13).alloc _).alloc _).alloc _).drew (by simp) | exact hN13.out.c3.kept (((Kept.refl [] W13).alloc _).alloc _).drew (by simp) | exact hN13.out.c3.kept ((Kept.refl [] W13).alloc _).drew (by simp) | exact hN13.out.c3.kept (Kept.refl [] W13).drew (by simp))
      clear hK K
      try simp only [Act.put, List.getElem_toArray, List.getElem_cons_succ, List.getElem_cons_zero, List.setIfInBounds_toArray, List.set_cons_zero, List.set_cons_succ]
      refine wpAnyH_ready (rs := [3, 5]) (by kernel_rfl) (by simp) ?_
      refine AllReadyH.cons rfl (fun K hK => ?_) (AllReadyH.cons rfl (fun K hK => ?_) AllReadyH.nil)
      · go_simp
        try go_wp2_with fail
        refine hK.out _ _ ?_ (fun hHeld => ?_)
        · (try dsimp only); (first | exact hN13.out.c3.kept k3 (by simp) | exact hN13.out.c3.kept k2 (by simp) | exact hN13.out.c3.kept k1 (by simp) | exact hN13.out.c3.kept ((((Kept.refl [] W13).alloc _).alloc _).alloc _).drew (by simp) | exact hN13.out.c3.kept (((Kept.refl [] W13).alloc _).alloc _).drew (by simp) | exact hN13.out.c3.kept ((Kept.refl [] W13).alloc _).drew (by simp) | exact hN13.out.c3.kept (Kept.refl [] W13).drew (by simp))
        clear hK K
        try simp only [Act.put, List.getElem_toArray, List.getElem_cons_succ, List.getElem_cons_zero, List.setIfInBounds_toArray, List.set_cons_zero, List.set_cons_succ]
        refine wpAnyH_ready (rs := [5]) (by kernel_rfl) (by simp) ?_
        refine AllReadyH.cons rfl (fun K hK => ?_) AllReadyH.nil
        go_simp
        try go_wp2_with fail
        refine hK.out _ _ ?_ (fun hHeld => ?_)
        · (try dsimp only); (first | exact hN13.out.c3.kept k3 (by simp) | exact hN13.out.c3.kept k2 (by simp) | exact hN13.out.c3.kept k1 (by simp) | exact hN13.out.c3.kept ((((Kept.refl [] W13).alloc _).alloc _).alloc _).drew (by simp) | exact hN13.out.c3.kept (((Kept.refl [] W13).alloc _).alloc _).drew (by simp) | exact hN13.out.c3.kept ((Kept.refl [] W13).alloc _).drew (by simp) | exact hN13.out.c3.kept (Kept.refl [] W13).drew (by simp))
        clear hK K
        try simp only [Act.put, List.getElem_toArray, List.getElem_cons_succ, List.getElem_cons_zero, List.setIfInBounds_toArray, List.set_cons_zero, List.set_cons_succ]
        refine wpAnyH_ready (rs := [6]) (by kernel_rfl) (by simp) ?_
        refine AllReadyH.cons rfl (fun K hK => ?_) AllReadyH.nil
        rw [if_pos (by rfl)]
        have z0 : CelIn (((W13.alloc (.cells #[.int .i32 0, .int .i32 0, .int .i32 0, .int .i32 0, .int .i64 0, .int .i64 0, .int .u8 0, .int .u8 0, .int .u8 0, .int .u8 0, .int .i64 0, .int .u8 0, .int .u8 0, .int .u8 0, .int .u8 0, .int .u8 0] 30)).alloc (.cells #[.int .i32 0, .int .i32 0, .int .i32 0, .int .i32 0, .int .i64 0, .int .i64 0, .int .u8 0, .int .u8 0, .int .u8 0, .int .u8 0, .int .i64 0, .int .u8 0, .int .u8 0, .int .u8 0, .int .u8 0, .int .u8 0] 30)).alloc (.cells #[.int .i32 0, .int .i32 0, .int .i32 0, .int .i32 0, .int .i64 0, .int .i64 0, .int .u8 0, .int .u8 0, .int .u8 0, .int .u8 0, .int .i64 0, .int .u8 0, .int .u8 0, .int .u8 0, .int .u8 0, .int .u8 0] 30)).drew W13.heap.size zeroK := CelIn.kept (w := (W13.alloc (.cells #[.int .i32 0, .int .i32 0, .int .i32 0, .int .i32 0, .int .i64 0, .int .i64 0, .int .u8 0, .int .u8 0, .int .u8 0, .int .u8 0, .int .i64 0, .int .u8 0, .int .u8 0, .int .u8 0, .int .u8 0, .int .u8 0] 30))) (heap_alloc_new W13 _) ((((Kept.refl [] _).alloc _).alloc _).drew) (by simp); have z1 : CelIn (((W13.alloc (.cells #[.int .i32 0, .int .i32 0, .int .i32 0, .int .i32 0, .int .i64 0, .int .i64 0, .int .u8 0, .int .u8 0, .int .u8 0, .int .u8 0, .int .i64 0, .int .u8 0, .int .u8 0, .int .u8 0, .int .u8 0, .int .u8 0] 30)).alloc (.cells #[.int .i32 0, .int .i32 0, .int .i32 0, .int .i32 0, .int .i64 0, .int .i64 0, .int .u8 0, .int .u8 0, .int .u8 0, .int .u8 0, .int .i64 0, .int .u8 0, .int .u8 0, .int .u8 0, .int .u8 0, .int .u8 0] 30)).alloc (.cells #[.int .i32 0, .int .i32 0, .int .i32 0, .int .i32 0, .int .i64 0, .int .i64 0, .int .u8 0, .int .u8 0, .int .u8 0, .int .u8 0, .int .i64 0, .int .u8 0, .int .u8 0, .int .u8 0, .int .u8 0, .int .u8 0] 30)).drew (W13.heap.size + 1) zeroK := CelIn.kept (w := ((W13.alloc (.cells #[.int .i32 0, .int .i32 0, .int .i32 0, .int .i32 0, .int .i64 0, .int .i64 0, .int .u8 0, .int .u8 0, .int .u8 0, .int .u8 0, .int .i64 0, .int .u8 0, .int .u8 0, .int .u8 0, .int .u8 0, .int .u8 0] 30)).alloc (.cells #[.int .i32 0, .int .i32 0, .int .i32 0, .int .i32 0, .int .i64 0, .int .i64 0, .int .u8 0, .int .u8 0, .int .u8 0, .int .u8 0, .int .i64 0, .int .u8 0, .int .u8 0, .int .u8 0, .int .u8 0, .int .u8 0] 30))) (heap_new_at (by simp)) (((Kept.refl [] _).alloc _).drew) (by simp); have z2 : CelIn (((W13.alloc (.cells #[.int .i32 0, .int .i32 0, .int .i32 0, .int .i32 0, .int .i64 0, .int .i64 0, .int .u8 0, .int .u8 0, .int .u8 0, .int .u8 0, .int .i64 0, .int .u8 0, .int .u8 0, .int .u8 0, .int .u8 0, .int .u8 0] 30)).alloc (.cells #[.int .i32 0, .int .i32 0, .int .i32 0, .int .i32 0, .int .i64 0, .int .i64 0, .int .u8 0, .int .u8 0, .int .u8 0, .int .u8 0, .int .i64 0, .int .u8 0, .int .u8 0, .int .u8 0, .int .u8 0, .int .u8 0] 30)).alloc (.cells #[.int .i32 0, .int .i32 0, .int .i32 0, .int .i32 0, .int .i64 0, .int .i64 0, .int .u8 0, .int .u8 0, .int .u8 0, .int .u8 0, .int .i64 0, .int .u8 0, .int .u8 0, .int .u8 0, .int .u8 0, .int .u8 0] 30)).drew (W13.heap.size + 1 + 1) zeroK := CelIn.kept (w := (((W13.alloc (.cells #[.int .i32 0, .int .i32 0, .int .i32 0, .int .i32 0, .int .i64 0, .int .i64 0, .int .u8 0, .int .u8 0, .int .u8 0, .int .u8 0, .int .i64 0, .int .u8 0, .int .u8 0, .int .u8 0, .int .u8 0, .int .u8 0] 30)).alloc (.cells #[.int .i32 0, .int .i32 0, .int .i32 0, .int .i32 0, .int .i64 0, .int .i64 0, .int .u8 0, .int .u8 0, .int .u8 0, .int .u8 0, .int .i64 0, .int .u8 0, .int .u8 0, .int .u8 0, .int .u8 0, .int .u8 0] 30)).alloc (.cells #[.int .i32 0, .int .i32 0, .int .i32 0, .int .i32 0, .int .i64 0, .int .i64 0, .int .u8 0, .int .u8 0, .int .u8 0, .int .u8 0, .int .i64 0, .int .u8 0, .int .u8 0, .int .u8 0, .int .u8 0, .int .u8 0] 30))) (heap_new_at (by simp)) ((Kept.refl [] _).drew) (by simp); refine wp_store_cel rfl rfl (W13.heap.size + 1) rfl z1 aC rfl ?_; intro V1 h1 j1; have k1 : Kept [] W13 V1 := (((((Kept.refl [] W13).alloc _).alloc _).alloc _).drew).trans j1 (by intro z hz; simp at hz; exact .inr (by omega)); have y0 := z0.kept j1 (by simp <;> omega); have y2 := z2.kept j1 (by simp <;> omega); clear z0 z1 z2
        refine hK.out _ _ ?_ (fun hHeld => ?_)
        · (try dsimp only); (first | exact hN13.out.c3.kept k3 (by simp) | exact hN13.out.c3.kept k2 (by simp) | exact hN13.out.c3.kept k1 (by simp) | exact hN13.out.c3.kept ((((Kept.refl [] W13).alloc _).alloc _).alloc _).drew (by simp) | exact hN13.out.c3.kept (((Kept.refl [] W13).alloc _).alloc _).drew (by simp) | exact hN13.out.c3.kept ((Kept.refl [] W13).alloc _).drew (by simp) | exact hN13.out.c3.kept (Kept.refl [] W13).drew (by simp))
        clear hK K
        try simp only [Act.put, List.getElem_toArray, List.getElem_cons_succ, List.getElem_cons_zero, List.setIfInBounds_toArray, List.set_cons_zero, List.set_cons_succ]
        refine wpAnyH_ready (rs := [7]) (by kernel_rfl) (by simp) ?_
        refine AllReadyH.cons rfl (fun K hK => ?_) AllReadyH.nil
        rw [if_pos (by rfl)]
        refine wp_store_cel rfl rfl W13.heap.size rfl y0 aC rfl ?_; intro V2 h2 j2; have k2 : Kept [] W13 V2 := k1.trans j2 (by intro z hz; simp at hz; exact .inr (by omega)); have g1 := h1.kept j2 (by simp <;> omega); have x2 := y2.kept j2 (by simp <;> omega)
        refine hK.out _ _ ?_ (fun hHeld => ?_)
        · (try dsimp only); (first | exact hN13.out.c3.kept k3 (by simp) | exact hN13.out.c3.kept k2 (by simp) | exact hN13.out.c3.kept k1 (by simp) | exact hN13.out.c3.kept ((((Kept.refl [] W13).alloc _).alloc _).alloc _).drew (by simp) | exact hN13.out.c3.kept (((Kept.refl [] W13).alloc _).alloc _).drew (by simp) | exact hN13.out.c3.kept ((Kept.refl [] W13).alloc _).drew (by simp) | exact hN13.out.c3.kept (Kept.refl [] W13).drew (by simp))
        clear hK K
        try simp only [Act.put, List.getElem_toArray, List.getElem_cons_succ, List.getElem_cons_zero, List.setIfInBounds_toArray, List.set_cons_zero, List.set_cons_succ]
        refine wpAnyH_ready (rs := [8]) (by kernel_rfl) (by simp) ?_
        refine AllReadyH.cons rfl (fun K hK => ?_) AllReadyH.nil
        rw [if_pos (by rfl)]
        refine wp_store_cel rfl rfl (W13.heap.size + 1 + 1) rfl x2 aC rfl ?_; intro V3 h3 j3; have k3 : Kept [] W13 V3 := k2.trans j3 (by intro z hz; simp at hz; exact .inr (by omega)); have f1 := g1.kept j3 (by simp <;> omega); have f2 := h2.kept j3 (by simp <;> omega)
        refine hK.out _ _ ?_ (fun hHeld => ?_)
        · (try dsimp only); (first | exact hN13.out.c3.kept k3 (by simp) | exact hN13.out.c3.kept k2 (by simp) | exact hN13.out.c3.kept k1 (by simp) | exact hN13.out.c3.kept ((((Kept.refl [] W13).alloc _).alloc _).alloc _).drew (by simp) | exact hN13.out.c3.kept (((Kept.refl [] W13).alloc _).alloc _).drew (by simp) | exact hN13.out.c3.kept ((Kept.refl [] W13).alloc _).drew (by simp) | exact hN13.out.c3.kept (Kept.refl [] W13).drew (by simp))
        clear hK K
        try simp only [Act.put, List.getElem_toArray, List.getElem_cons_succ, List.getElem_cons_zero, List.setIfInBounds_toArray, List.set_cons_zero, List.set_cons_succ]
        refine wpAnyH_done (by kernel_rfl) ?_ _
        go_wp2_with fail; go_meet; exact ⟨_, _, _, rfl, rfl, rfl, f1, f2, h3, by simp <;> omega, by simp <;> omega, by simp <;> omega, by omega, by omega, by omega, k3⟩
      · go_simp
        try go_wp2_with fail
        refine hK.out _ _ ?_ (fun hHeld => ?_)
        · (try dsimp only); (first | exact hN13.out.c3.kept k3 (by simp) | exact hN13.out.c3.kept k2 (by simp) | exact hN13.out.c3.kept k1 (by simp) | exact hN13.out.c3.kept ((((Kept.refl [] W13).alloc _).alloc _).alloc _).drew (by simp) | exact hN13.out.c3.kept (((Kept.refl [] W13).alloc _).alloc _).drew (by simp) | exact hN13.out.c3.kept ((Kept.refl [] W13).alloc _).drew (by simp) | exact hN13.out.c3.kept (Kept.refl [] W13).drew (by simp))
        clear hK K
        try simp only [Act.put, List.getElem_toArray, List.getElem_cons_succ, List.getElem_cons_zero, List.setIfInBounds_toArray, List.set_cons_zero, List.set_cons_succ]
        refine wpAnyH_ready (rs := [3]) (by kernel_rfl) (by simp) ?_
        refine AllReadyH.cons rfl (fun K hK => ?_) AllReadyH.nil
        go_simp
        try go_wp2_with fail
        refine hK.out _ _ ?_ (fun hHeld => ?_)
        · (try dsimp only); (first | exact hN13.out.c3.kept k3 (by simp) | exact hN13.out.c3.kept k2 (by simp) | exact hN13.out.c3.kept k1 (by simp) | exact hN13.out.c3.kept ((((Kept.refl [] W13).alloc _).alloc _).alloc _).drew (by simp) | exact hN13.out.c3.kept (((Kept.refl [] W13).alloc _).alloc _).drew (by simp) | exact hN13.out.c3.kept ((Kept.refl [] W13).alloc _).drew (by simp) | exact hN13.out.c3.kept (Kept.refl [] W13).drew (by simp))
        clear hK K
        try simp only [Act.put, List.getElem_toArray, List.getElem_cons_succ, List.getElem_cons_zero, List.setIfInBounds_toArray, List.set_cons_zero, List.set_cons_succ]
        refine wpAnyH_ready (rs := [6]) (by kernel_rfl) (by simp) ?_
        refine AllReadyH.cons rfl (fun K hK => ?_) AllReadyH.nil
        rw [if_pos (by rfl)]
        have z0 : CelIn (((W13.alloc (.cells #[.int .i32 0, .int .i32 0, .int .i32 0, .int .i32 0, .int .i64 0, .int .i64 0, .int .u8 0, .int .u8 0, .int .u8 0, .int .u8 0, .int .i64 0, .int .u8 0, .int .u8 0, .int .u8 0, .int .u8 0, .int .u8 0] 30)).alloc (.cells #[.int .i32 0, .int .i32 0, .int .i32 0, .int .i32 0, .int .i64 0, .int .i64 0, .int .u8 0, .int .u8 0, .int .u8 0, .int .u8 0, .int .i64 0, .int .u8 0, .int .u8 0, .int .u8 0, .int .u8 0, .int .u8 0] 30)).alloc (.cells #[.int .i32 0, .int .i32 0, .int .i32 0, .int .i32 0, .int .i64 0, .int .i64 0, .int .u8 0, .int .u8 0, .int .u8 0, .int .u8 0, .int .i64 0, .int .u8 0, .int .u8 0, .int .u8 0, .int .u8 0, .int .u8 0] 30)).drew W13.heap.size zeroK := CelIn.kept (w := (W13.alloc (.cells #[.int .i32 0, .int .i32 0, .int .i32 0, .int .i32 0, .int .i64 0, .int .i64 0, .int .u8 0, .int .u8 0, .int .u8 0, .int .u8 0, .int .i64 0, .int .u8 0, .int .u8 0, .int .u8 0, .int .u8 0, .int .u8 0] 30))) (heap_alloc_new W13 _) ((((Kept.refl [] _).alloc _).alloc _).drew) (by simp); have z1 : CelIn (((W13.alloc (.cells #[.int .i32 0, .int .i32 0, .int .i32 0, .int .i32 0, .int .i64 0, .int .i64 0, .int .u8 0, .int .u8 0, .int .u8 0, .int .u8 0, .int .i64 0, .int .u8 0, .int .u8 0, .int .u8 0, .int .u8 0, .int .u8 0] 30)).alloc (.cells #[.int .i32 0, .int .i32 0, .int .i32 0, .int .i32 0, .int .i64 0, .int .i64 0, .int .u8 0, .int .u8 0, .int .u8 0, .int .u8 0, .int .i64 0, .int .u8 0, .int .u8 0, .int .u8 0, .int .u8 0, .int .u8 0] 30)).alloc (.cells #[.int .i32 0, .int .i32 0, .int .i32 0, .int .i32 0, .int .i64 0, .int .i64 0, .int .u8 0, .int .u8 0, .int .u8 0, .int .u8 0, .int .i64 0, .int .u8 0, .int .u8 0, .int .u8 0, .int .u8 0, .int .u8 0] 30)).drew (W13.heap.size + 1) zeroK := CelIn.kept (w := ((W13.alloc (.cells #[.int .i32 0, .int .i32 0, .int .i32 0, .int .i32 0, .int .i64 0, .int .i64 0, .int .u8 0, .int .u8 0, .int .u8 0, .int .u8 0, .int .i64 0, .int .u8 0, .int .u8 0, .int .u8 0, .int .u8 0, .int .u8 0] 30)).alloc (.cells #[.int .i32 0, .int .i32 0, .int .i32 0, .int .i32 0, .int .i64 0, .int .i64 0, .int .u8 0, .int .u8 0, .int .u8 0, .int .u8 0, .int .i64 0, .int .u8 0, .int .u8 0, .int .u8 0, .int .u8 0, .int .u8 0] 30))) (heap_new_at (by simp)) (((Kept.refl [] _).alloc _).drew) (by simp); have z2 : CelIn (((W13.alloc (.cells #[.int .i32 0, .int .i32 0, .int .i32 0, .int .i32 0, .int .i64 0, .int .i64 0, .int .u8 0, .int .u8 0, .int .u8 0, .int .u8 0, .int .i64 0, .int .u8 0, .int .u8 0, .int .u8 0, .int .u8 0, .int .u8 0] 30)).alloc (.cells #[.int .i32 0, .int .i32 0, .int .i32 0, .int .i32 0, .int .i64 0, .int .i64 0, .int .u8 0, .int .u8 0, .int .u8 0, .int .u8 0, .int .i64 0, .int .u8 0, .int .u8 0, .int .u8 0, .int .u8 0, .int .u8 0] 30)).alloc (.cells #[.int .i32 0, .int .i32 0, .int .i32 0, .int .i32 0, .int .i64 0, .int .i64 0, .int .u8 0, .int .u8 0, .int .u8 0, .int .u8 0, .int .i64 0, .int .u8 0, .int .u8 0, .int .u8 0, .int .u8 0, .int .u8 0] 30)).drew (W13.heap.size + 1 + 1) zeroK := CelIn.kept (w := (((W13.alloc (.cells #[.int .i32 0, .int .i32 0, .int .i32 0, .int .i32 0, .int .i64 0, .int .i64 0, .int .u8 0, .int .u8 0, .int .u8 0, .int .u8 0, .int .i64 0, .int .u8 0, .int .u8 0, .int .u8 0, .int .u8 0, .int .u8 0] 30)).alloc (.cells #[.int .i32 0, .int .i32 0, .int .i32 0, .int .i32 0, .int .i64 0, .int .i64 0, .int .u8 0, .int .u8 0, .int .u8 0, .int .u8 0, .int .i64 0, .int .u8 0, .int .u8 0, .int .u8 0, .int .u8 0, .int .u8 0] 30)).alloc (.cells #[.int .i32 0, .int .i32 0, .int .i32 0, .int .i32 0, .int .i64 0, .int .i64 0, .int .u8 0, .int .u8 0, .int .u8 0, .int .u8 0, .int .i64 0, .int .u8 0, .int .u8 0, .int .u8 0, .int .u8 0, .int .u8 0] 30))) (heap_new_at (by simp)) ((Kept.refl [] _).drew) (by simp); refine wp_store_cel rfl rfl (W13.heap.size + 1 + 1) rfl z2 aC rfl ?_; intro V1 h1 j1; have k1 : Kept [] W13 V1 := (((((Kept.refl [] W13).alloc _).alloc _).alloc _).drew).trans j1 (by intro z hz; simp at hz; exact .inr (by omega)); have y0 := z0.kept j1 (by simp <;> omega); have y1 := z1.kept j1 (by simp <;> omega); clear z0 z1 z2
        refine hK.out _ _ ?_ (fun hHeld => ?_)
        · (try dsimp only); (first | exact hN13.out.c3.kept k3 (by simp) | exact hN13.out.c3.kept k2 (by simp) | exact hN13.out.c3.kept k1 (by simp) | exact hN13.out.c3.kept ((((Kept.refl [] W13).alloc _).alloc _).alloc _).drew (by simp) | exact hN13.out.c3.kept (((Kept.refl [] W13).alloc _).alloc _).drew (by simp) | exact hN13.out.c3.kept ((Kept.refl [] W13).alloc _).drew (by simp) | exact hN13.out.c3.kept (Kept.refl [] W13).drew (by simp))
        clear hK K
        try simp only [Act.put, List.getElem_toArray, List.getElem_cons_succ, List.getElem_cons_zero, List.setIfInBounds_toArray, List.set_cons_zero, List.set_cons_succ]
        refine wpAnyH_ready (rs := [7]) (by kernel_rfl) (by simp) ?_
        refine AllReadyH.cons rfl (fun K hK => ?_) AllReadyH.nil
        rw [if_pos (by rfl)]
        refine wp_store_cel rfl rfl W13.heap.size rfl y0 aC rfl ?_; intro V2 h2 j2; have k2 : Kept [] W13 V2 := k1.trans j2 (by intro z hz; simp at hz; exact .inr (by omega)); have g1 := h1.kept j2 (by simp <;> omega); have x1 := y1.kept j2 (by simp <;> omega)
        refine hK.out _ _ ?_ (fun hHeld => ?_)
        · (try dsimp only); (first | exact hN13.out.c3.kept k3 (by simp) | exact hN13.out.c3.kept k2 (by simp) | exact hN13.out.c3.kept k1 (by simp) | exact hN13.out.c3.kept ((((Kept.refl [] W13).alloc _).alloc _).alloc _).drew (by simp) | exact hN13.out.c3.kept (((Kept.refl [] W13).alloc _).alloc _).drew (by simp) | exact hN13.out.c3.kept ((Kept.refl [] W13).alloc _).drew (by simp) | exact hN13.out.c3.kept (Kept.refl [] W13).drew (by simp))
        clear hK K
        try simp only [Act.put, List.getElem_toArray, List.getElem_cons_succ, List.getElem_cons_zero, List.setIfInBounds_toArray, List.set_cons_zero, List.set_cons_succ]
        refine wpAnyH_ready (rs := [8]) (by kernel_rfl) (by simp) ?_
        refine AllReadyH.cons rfl (fun K hK => ?_) AllReadyH.nil
        rw [if_pos (by rfl)]
        refine wp_store_cel rfl rfl (W13.heap.size + 1) rfl x1 aC rfl ?_; intro V3 h3 j3; have k3 : Kept [] W13 V3 := k2.trans j3 (by intro z hz; simp at hz; exact .inr (by omega)); have f1 := g1.kept j3 (by simp <;> omega); have f2 := h2.kept j3 (by simp <;> omega)
        refine hK.out _ _ ?_ (fun hHeld => ?_)
        · (try dsimp only); (first | exact hN13.out.c3.kept k3 (by simp) | exact hN13.out.c3.kept k2 (by simp) | exact hN13.out.c3.kept k1 (by simp) | exact hN13.out.c3.kept ((((Kept.refl [] W13).alloc _).alloc _).alloc _).drew (by simp) | exact hN13.out.c3.kept (((Kept.refl [] W13).alloc _).alloc _).drew (by simp) | exact hN13.out.c3.kept ((Kept.refl [] W13).alloc _).drew (by simp) | exact hN13.out.c3.kept (Kept.refl [] W13).drew (by simp))
        clear hK K
        try simp only [Act.put, List.getElem_toArray, List.getElem_cons_succ, List.getElem_cons_zero, List.setIfInBounds_toArray, List.set_cons_zero, List.set_cons_succ]
        refine wpAnyH_done (by kernel_rfl) ?_ _
        go_wp2_with fail; go_meet; exact ⟨_, _, _, rfl, rfl, rfl, f1, f2, h3, by simp <;> omega, by simp <;> omega, by simp <;> omega, by omega, by omega, by omega, k3⟩
    · go_simp
      try go_wp2_with fail
      refine hK.out _ _ ?_ (fun hHeld => ?_)
      · (try dsimp only); (first | exact hN13.out.c3.kept k3 (by simp) | exact hN13.out.c3.kept k2 (by simp) | exact hN13.out.c3.kept k1 (by simp) | exact hN13.out.c3.kept ((((Kept.refl [] W13).alloc _).alloc _).alloc _).drew (by simp) | exact hN13.out.c3.kept (((Kept.refl [] W13).alloc _).alloc _).drew (by simp) | exact hN13.out.c3.kept ((Kept.refl [] W13).alloc _).drew (by simp) | exact hN13.out.c3.kept (Kept.refl [] W13).drew (by simp))
      clear hK K
      try simp only [Act.put, List.getElem_toArray, List.getElem_cons_succ, List.getElem_cons_zero, List.setIfInBounds_toArray, List.set_cons_zero, List.set_cons_succ]
      refine wpAnyH_ready (rs := [3, 4]) (by kernel_rfl) (by simp) ?_
      refine AllReadyH.cons rfl (fun K hK => ?_) (AllReadyH.cons rfl (fun K hK => ?_) AllReadyH.nil)
      · go_simp
        try go_wp2_with fail
        refine hK.out _ _ ?_ (fun hHeld => ?_)
        · (try dsimp only); (first | exact hN13.out.c3.kept k3 (by simp) | exact hN13.out.c3.kept k2 (by simp) | exact hN13.out.c3.kept k1 (by simp) | exact hN13.out.c3.kept ((((Kept.refl [] W13).alloc _).alloc _).alloc _).drew (by simp) | exact hN13.out.c3.kept (((Kept.refl [] W13).alloc _).alloc _).drew (by simp) | exact hN13.out.c3.kept ((Kept.refl [] W13).alloc _).drew (by simp) | exact hN13.out.c3.kept (Kept.refl [] W13).drew (by simp))
        clear hK K
        try simp only [Act.put, List.getElem_toArray, List.getElem_cons_succ, List.getElem_cons_zero, List.setIfInBounds_toArray, List.set_cons_zero, List.set_cons_succ]
        refine wpAnyH_ready (rs := [4]) (by kernel_rfl) (by simp) ?_
        refine AllReadyH.cons rfl (fun K hK => ?_) AllReadyH.nil
        go_simp
        try go_wp2_with fail
        refine hK.out _ _ ?_ (fun hHeld => ?_)
        · (try dsimp only); (first | exact hN13.out.c3.kept k3 (by simp) | exact hN13.out.c3.kept k2 (by simp) | exact hN13.out.c3.kept k1 (by simp) | exact hN13.out.c3.kept ((((Kept.refl [] W13).alloc _).alloc _).alloc _).drew (by simp) | exact hN13.out.c3.kept (((Kept.refl [] W13).alloc _).alloc _).drew (by simp) | exact hN13.out.c3.kept ((Kept.refl [] W13).alloc _).drew (by simp) | exact hN13.out.c3.kept (Kept.refl [] W13).drew (by simp))
        clear hK K
        try simp only [Act.put, List.getElem_toArray, List.getElem_cons_succ, List.getElem_cons_zero, List.setIfInBounds_toArray, List.set_cons_zero, List.set_cons_succ]
        refine wpAnyH_ready (rs := [6]) (by kernel_rfl) (by simp) ?_
        refine AllReadyH.cons rfl (fun K hK => ?_) AllReadyH.nil
        rw [if_pos (by rfl)]
        have z0 : CelIn (((W13.alloc (.cells #[.int .i32 0, .int .i32 0, .int .i32 0, .int .i32 0, .int .i64 0, .int .i64 0, .int .u8 0, .int .u8 0, .int .u8 0, .int .u8 0, .int .i64 0, .int .u8 0, .int .u8 0, .int .u8 0, .int .u8 0, .int .u8 0] 30)).alloc (.cells #[.int .i32 0, .int .i32 0, .int .i32 0, .int .i32 0, .int .i64 0, .int .i64 0, .int .u8 0, .int .u8 0, .int .u8 0, .int .u8 0, .int .i64 0, .int .u8 0, .int .u8 0, .int .u8 0, .int .u8 0, .int .u8 0] 30)).alloc (.cells #[.int .i32 0, .int .i32 0, .int .i32 0, .int .i32 0, .int .i64 0, .int .i64 0, .int .u8 0, .int .u8 0, .int .u8 0, .int .u8 0, .int .i64 0, .int .u8 0, .int .u8 0, .int .u8 0, .int .u8 0, .int .u8 0] 30)).drew W13.heap.size zeroK := CelIn.kept (w := (W13.alloc (.cells #[.int .i32 0, .int .i32 0, .int .i32 0, .int .i32 0, .int .i64 0, .int .i64 0, .int .u8 0, .int .u8 0, .int .u8 0, .int .u8 0, .int .i64 0, .int .u8 0, .int .u8 0, .int .u8 0, .int .u8 0, .int .u8 0] 30))) (heap_alloc_new W13 _) ((((Kept.refl [] _).alloc _).alloc _).drew) (by simp); have z1 : CelIn (((W13.alloc (.cells #[.int .i32 0, .int .i32 0, .int .i32 0, .int .i32 0, .int .i64 0, .int .i64 0, .int .u8 0, .int .u8 0, .int .u8 0, .int .u8 0, .int .i64 0, .int .u8 0, .int .u8 0, .int .u8 0, .int .u8 0, .int .u8 0] 30)).alloc (.cells #[.int .i32 0, .int .i32 0, .int .i32 0, .int .i32 0, .int .i64 0, .int .i64 0, .int .u8 0, .int .u8 0, .int .u8 0, .int .u8 0, .int .i64 0, .int .u8 0, .int .u8 0, .int .u8 0, .int .u8 0, .int .u8 0] 30)).alloc (.cells #[.int .i32 0, .int .i32 0, .int .i32 0, .int .i32 0, .int .i64 0, .int .i64 0, .int .u8 0, .int .u8 0, .int .u8 0, .int .u8 0, .int .i64 0, .int .u8 0, .int .u8 0, .int .u8 0, .int .u8 0, .int .u8 0] 30)).drew (W13.heap.size + 1) zeroK := CelIn.kept (w := ((W13.alloc (.cells #[.int .i32 0, .int .i32 0, .int .i32 0, .int .i32 0, .int .i64 0, .int .i64 0, .int .u8 0, .int .u8 0, .int .u8 0, .int .u8 0, .int .i64 0, .int .u8 0, .int .u8 0, .int .u8 0, .int .u8 0, .int .u8 0] 30)).alloc (.cells #[.int .i32 0, .int .i32 0, .int .i32 0, .int .i32 0, .int .i64 0, .int .i64 0, .int .u8 0, .int .u8 0, .int .u8 0, .int .u8 0, .int .i64 0, .int .u8 0, .int .u8 0, .int .u8 0, .int .u8 0, .int .u8 0] 30))) (heap_new_at (by simp)) (((Kept.refl [] _).alloc _).drew) (by simp); have z2 : CelIn (((W13.alloc (.cells #[.int .i32 0, .int .i32 0, .int .i32 0, .int .i32 0, .int .i64 0, .int .i64 0, .int .u8 0, .int .u8 0, .int .u8 0, .int .u8 0, .int .i64 0, .int .u8 0, .int .u8 0, .int .u8 0, .int .u8 0, .int .u8 0] 30)).alloc (.cells #[.int .i32 0, .int .i32 0, .int .i32 0, .int .i32 0, .int .i64 0, .int .i64 0, .int .u8 0, .int .u8 0, .int .u8 0, .int .u8 0, .int .i64 0, .int .u8 0, .int .u8 0, .int .u8 0, .int .u8 0, .int .u8 0] 30)).alloc (.cells #[.int .i32 0, .int .i32 0, .int .i32 0, .int .i32 0, .int .i64 0, .int .i64 0, .int .u8 0, .int .u8 0, .int .u8 0, .int .u8 0, .int .i64 0, .int .u8 0, .int .u8 0, .int .u8 0, .int .u8 0, .int .u8 0] 30)).drew (W13.heap.size + 1 + 1) zeroK := CelIn.kept (w := (((W13.alloc (.cells #[.int .i32 0, .int .i32 0, .int .i32 0, .int .i32 0, .int .i64 0, .int .i64 0, .int .u8 0, .int .u8 0, .int .u8 0, .int .u8 0, .int .i64 0, .int .u8 0, .int .u8 0, .int .u8 0, .int .u8 0, .int .u8 0] 30)).alloc (.cells #[.int .i32 0, .int .i32 0, .int .i32 0, .int .i32 0, .int .i64 0, .int .i64 0, .int .u8 0, .int .u8 0, .int .u8 0, .int .u8 0, .int .i64 0, .int .u8 0, .int .u8 0, .int .u8 0, .int .u8 0, .int .u8 0] 30)).alloc (.cells #[.int .i32 0, .int .i32 0, .int .i32 0, .int .i32 0, .int .i64 0, .int .i64 0, .int .u8 0, .int .u8 0, .int .u8 0, .int .u8 0, .int .i64 0, .int .u8 0, .int .u8 0, .int .u8 0, .int .u8 0, .int .u8 0] 30))) (heap_new_at (by simp)) ((Kept.refl [] _).drew) (by simp); refine wp_store_cel rfl rfl (W13.heap.size + 1) rfl z1 aC rfl ?_; intro V1 h1 j1; have k1 : Kept [] W13 V1 := (((((Kept.refl [] W13).alloc _).alloc _).alloc _).drew).trans j1 (by intro z hz; simp at hz; exact .inr (by omega)); have y2 := z2.kept j1 (by simp <;> omega); have y0 := z0.kept j1 (by simp <;> omega); clear z0 z1 z2
        refine hK.out _ _ ?_ (fun hHeld => ?_)
        · (try dsimp only); (first | exact hN13.out.c3.kept k3 (by simp) | exact hN13.out.c3.kept k2 (by simp) | exact hN13.out.c3.kept k1 (by simp) | exact hN13.out.c3.kept ((((Kept.refl [] W13).alloc _).alloc _).alloc _).drew (by simp) | exact hN13.out.c3.kept (((Kept.refl [] W13).alloc _).alloc _).drew (by simp) | exact hN13.out.c3.kept ((Kept.refl [] W13).alloc _).drew (by simp) | exact hN13.out.c3.kept (Kept.refl [] W13).drew (by simp))
        clear hK K
        try simp only [Act.put, List.getElem_toArray, List.getElem_cons_succ, List.getElem_cons_zero, List.setIfInBounds_toArray, List.set_cons_zero, List.set_cons_succ]
        refine wpAnyH_ready (rs := [7]) (by kernel_rfl) (by simp) ?_
        refine AllReadyH.cons rfl (fun K hK => ?_) AllReadyH.nil
        rw [if_pos (by rfl)]
        refine wp_store_cel rfl rfl (W13.heap.size + 1 + 1) rfl y2 aC rfl ?_; intro V2 h2 j2; have k2 : Kept [] W13 V2 := k1.trans j2 (by intro z hz; simp at hz; exact .inr (by omega)); have g1 := h1.kept j2 (by simp <;> omega); have x0 := y0.kept j2 (by simp <;> omega)
        refine hK.out _ _ ?_ (fun hHeld => ?_)
        · (try dsimp only); (first | exact hN13.out.c3.kept k3 (by simp) | exact hN13.out.c3.kept k2 (by simp) | exact hN13.out.c3.kept k1 (by simp) | exact hN13.out.c3.kept ((((Kept.refl [] W13).alloc _).alloc _).alloc _).drew (by simp) | exact hN13.out.c3.kept (((Kept.refl [] W13).alloc _).alloc _).drew (by simp) | exact hN13.out.c3.kept ((Kept.refl [] W13).alloc _).drew (by simp) | exact hN13.out.c3.kept (Kept.refl [] W13).drew (by simp))
        clear hK K
        try simp only [Act.put, List.getElem_toArray, List.getElem_cons_succ, List.getElem_cons_zero, List.setIfInBounds_toArray, List.set_cons_zero, List.set_cons_succ]
        refine wpAnyH_ready (rs := [8]) (by kernel_rfl) (by simp) ?_
        refine AllReadyH.cons rfl (fun K hK => ?_) AllReadyH.nil
        rw [if_pos (by rfl)]
        refine wp_store_cel rfl rfl W13.heap.size rfl x0 aC rfl ?_; intro V3 h3 j3; have k3 : Kept [] W13 V3 := k2.trans j3 (by intro z hz; simp at hz; exact .inr (by omega)); have f1 := g1.kept j3 (by simp <;> omega); have f2 := h2.kept j3 (by simp <;> omega)
        refine hK.out _ _ ?_ (fun hHeld => ?_)
        · (try dsimp only); (first | exact hN13.out.c3.kept k3 (by simp) | exact hN13.out.c3.kept k2 (by simp) | exact hN13.out.c3.kept k1 (by simp) | exact hN13.out.c3.kept ((((Kept.refl [] W13).alloc _).alloc _).alloc _).drew (by simp) | exact hN13.out.c3.kept (((Kept.refl [] W13).alloc _).alloc _).drew (by simp) | exact hN13.out.c3.kept ((Kept.refl [] W13).alloc _).drew (by simp) | exact hN13.out.c3.kept (Kept.refl [] W13).drew (by simp))
        clear hK K
        try simp only [Act.put, List.getElem_toArray, List.getElem_cons_succ, List.getElem_cons_zero, List.setIfInBounds_toArray, List.set_cons_zero, List.set_cons_succ]
        refine wpAnyH_done (by kernel_rfl) ?_ _
        go_wp2_with fail; go_meet; exact ⟨_, _, _, rfl, rfl, rfl, f1, f2, h3, by simp <;> omega, by simp <;> omega, by simp <;> omega, by omega, by omega, by omega, k3⟩
      · go_simp
        try go_wp2_with fail
        refine hK.out _ _ ?_ (fun hHeld => ?_)
        · (try dsimp only); (first | exact hN13.out.c3.kept k3 (by simp) | exact hN13.out.c3.kept k2 (by simp) | exact hN13.out.c3.kept k1 (by simp) | exact hN13.out.c3.kept ((((Kept.refl [] W13).alloc _).alloc _).alloc _).drew (by simp) | exact hN13.out.c3.kept (((Kept.refl [] W13).alloc _).alloc _).drew (by simp) | exact hN13.out.c3.kept ((Kept.refl [] W13).alloc _).drew (by simp) | exact hN13.out.c3.kept (Kept.refl [] W13).drew (by simp))
        clear hK K
        try simp only [Act.put, List.getElem_toArray, List.getElem_cons_succ, List.getElem_cons_zero, List.setIfInBounds_toArray, List.set_cons_zero, List.set_cons_succ]
        refine wpAnyH_ready (rs := [3]) (by kernel_rfl) (by simp) ?_
        refine AllReadyH.cons rfl (fun K hK => ?_) AllReadyH.nil
        go_simp
        try go_wp2_with fail
        refine hK.out _ _ ?_ (fun hHeld => ?_)
        · (try dsimp only); (first | exact hN13.out.c3.kept k3 (by simp) | exact hN13.out.c3.kept k2 (by simp) | exact hN13.out.c3.kept k1 (by simp) | exact hN13.out.c3.kept ((((Kept.refl [] W13).alloc _).alloc _).alloc _).drew (by simp) | exact hN13.out.c3.kept (((Kept.refl [] W13).alloc _).alloc _).drew (by simp) | exact hN13.out.c3.kept ((Kept.refl [] W13).alloc _).drew (by simp) | exact hN13.out.c3.kept (Kept.refl [] W13).drew (by simp))
        clear hK K
        try simp only [Act.put, List.getElem_toArray, List.getElem_cons_succ, List.getElem_cons_zero, List.setIfInBounds_toArray, List.set_cons_zero, List.set_cons_succ]
        refine wpAnyH_ready (rs := [6]) (by kernel_rfl) (by simp) ?_
        refine AllReadyH.cons rfl (fun K hK => ?_) AllReadyH.nil
        rw [if_pos (by rfl)]
        have z0 : CelIn (((W13.alloc (.cells #[.int .i32 0, .int .i32 0, .int .i32 0, .int .i32 0, .int .i64 0, .int .i64 0, .int .u8 0, .int .u8 0, .int .u8 0, .int .u8 0, .int .i64 0, .int .u8 0, .int .u8 0, .int .u8 0, .int .u8 0, .int .u8 0] 30)).alloc (.cells #[.int .i32 0, .int .i32 0, .int .i32 0, .int .i32 0, .int .i64 0, .int .i64 0, .int .u8 0, .int .u8 0, .int .u8 0, .int .u8 0, .int .i64 0, .int .u8 0, .int .u8 0, .int .u8 0, .int .u8 0, .int .u8 0] 30)).alloc (.cells #[.int .i32 0, .int .i32 0, .int .i32 0, .int .i32 0, .int .i64 0, .int .i64 0, .int .u8 0, .int .u8 0, .int .u8 0, .int .u8 0, .int .i64 0, .int .u8 0, .int .u8 0, .int .u8 0, .int .u8 0, .int .u8 0] 30)).drew W13.heap.size zeroK := CelIn.kept (w := (W13.alloc (.cells #[.int .i32 0, .int .i32 0, .int .i32 0, .int .i32 0, .int .i64 0, .int .i64 0, .int .u8 0, .int .u8 0, .int .u8 0, .int .u8 0, .int .i64 0, .int .u8 0, .int .u8 0, .int .u8 0, .int .u8 0, .int .u8 0] 30))) (heap_alloc_new W13 _) ((((Kept.refl [] _).alloc _).alloc _).drew) (by simp); have z1 : CelIn (((W13.alloc (.cells #[.int .i32 0, .int .i32 0, .int .i32 0, .int .i32 0, .int .i64 0, .int .i64 0, .int .u8 0, .int .u8 0, .int .u8 0, .int .u8 0, .int .i64 0, .int .u8 0, .int .u8 0, .int .u8 0, .int .u8 0, .int .u8 0] 30)).alloc (.cells #[.int .i32 0, .int .i32 0, .int .i32 0, .int .i32 0, .int .i64 0, .int .i64 0, .int .u8 0, .int .u8 0, .int .u8 0, .int .u8 0, .int .i64 0, .int .u8 0, .int .u8 0, .int .u8 0, .int .u8 0, .int .u8 0] 30)).alloc (.cells #[.int .i32 0, .int .i32 0, .int .i32 0, .int .i32 0, .int .i64 0, .int .i64 0, .int .u8 0, .int .u8 0, .int .u8 0, .int .u8 0, .int .i64 0, .int .u8 0, .int .u8 0, .int .u8 0, .int .u8 0, .int .u8 0] 30)).drew (W13.heap.size + 1) zeroK := CelIn.kept (w := ((W13.alloc (.cells #[.int .i32 0, .int .i32 0, .int .i32 0, .int .i32 0, .int .i64 0, .int .i64 0, .int .u8 0, .int .u8 0, .int .u8 0, .int .u8 0, .int .i64 0, .int .u8 0, .int .u8 0, .int .u8 0, .int .u8 0, .int .u8 0] 30)).alloc (.cells #[.int .i32 0, .int .i32 0, .int .i32 0, .int .i32 0, .int .i64 0, .int .i64 0, .int .u8 0, .int .u8 0, .int .u8 0, .int .u8 0, .int .i64 0, .int .u8 0, .int .u8 0, .int .u8 0, .int .u8 0, .int .u8 0] 30))) (heap_new_at (by simp)) (((Kept.refl [] _).alloc _).drew) (by simp); have z2 : CelIn (((W13.alloc (.cells #[.int .i32 0, .int .i32 0, .int .i32 0, .int .i32 0, .int .i64 0, .int .i64 0, .int .u8 0, .int .u8 0, .int .u8 0, .int .u8 0, .int .i64 0, .int .u8 0, .int .u8 0, .int .u8 0, .int .u8 0, .int .u8 0] 30)).alloc (.cells #[.int .i32 0, .int .i32 0, .int .i32 0, .int .i32 0, .int .i64 0, .int .i64 0, .int .u8 0, .int .u8 0, .int .u8 0, .int .u8 0, .int .i64 0, .int .u8 0, .int .u8 0, .int .u8 0, .int .u8 0, .int .u8 0] 30)).alloc (.cells #[.int .i32 0, .int .i32 0, .int .i32 0, .int .i32 0, .int .i64 0, .int .i64 0, .int .u8 0, .int .u8 0, .int .u8 0, .int .u8 0, .int .i64 0, .int .u8 0, .int .u8 0, .int .u8 0, .int .u8 0, .int .u8 0] 30)).drew (W13.heap.size + 1 + 1) zeroK := CelIn.kept (w := (((W13.alloc (.cells #[.int .i32 0, .int .i32 0, .int .i32 0, .int .i32 0, .int .i64 0, .int .i64 0, .int .u8 0, .int .u8 0, .int .u8 0, .int .u8 0, .int .i64 0, .int .u8 0, .int .u8 0, .int .u8 0, .int .u8 0, .int .u8 0] 30)).alloc (.cells #[.int .i32 0, .int .i32 0, .int .i32 0, .int .i32 0, .int .i64 0, .int .i64 0, .int .u8 0, .int .u8 0, .int .u8 0, .int .u8 0, .int .i64 0, .int .u8 0, .int .u8 0, .int .u8 0, .int .u8 0, .int .u8 0] 30)).alloc (.cells #[.int .i32 0, .int .i32 0, .int .i32 0, .int .i32 0, .int .i64 0, .int .i64 0, .int .u8 0, .int .u8 0, .int .u8 0, .int .u8 0, .int .i64 0, .int .u8 0, .int .u8 0, .int .u8 0, .int .u8 0, .int .u8 0] 30))) (heap_new_at (by simp)) ((Kept.refl [] _).drew) (by simp); refine wp_store_cel rfl rfl (W13.heap.size + 1 + 1) rfl z2 aC rfl ?_; intro V1 h1 j1; have k1 : Kept [] W13 V1 := (((((Kept.refl [] W13).alloc _).alloc _).alloc _).drew).trans j1 (by intro z hz; simp at hz; exact .inr (by omega)); have y1 := z1.kept j1 (by simp <;> omega); have y0 := z0.kept j1 (by simp <;> omega); clear z0 z1 z2
        refine hK.out _ _ ?_ (fun hHeld => ?_)
        · (try dsimp only); (first | exact hN13.out.c3.kept k3 (by simp) | exact hN13.out.c3.kept k2 (by simp) | exact hN13.out.c3.kept k1 (by simp) | exact hN13.out.c3.kept ((((Kept.refl [] W13).alloc _).alloc _).alloc _).drew (by simp) | exact hN13.out.c3.kept (((Kept.refl [] W13).alloc _).alloc _).drew (by simp) | exact hN13.out.c3.kept ((Kept.refl [] W13).alloc _).drew (by simp) | exact hN13.out.c3.kept (Kept.refl [] W13).drew (by simp))
        clear hK K
        try simp only [Act.put, List.getElem_toArray, List.getElem_cons_succ, List.getElem_cons_zero, List.setIfInBounds_toArray, List.set_cons_zero, List.set_cons_succ]
        refine wpAnyH_ready (rs := [7]) (by kernel_rfl) (by simp) ?_
        refine AllReadyH.cons rfl (fun K hK => ?_) AllReadyH.nil
        rw [if_pos (by rfl)]
        refine wp_store_cel rfl rfl (W13.heap.size + 1) rfl y1 aC rfl ?_; intro V2 h2 j2; have k2 : Kept [] W13 V2 := k1.trans j2 (by intro z hz; simp at hz; exact .inr (by omega)); have g1 := h1.kept j2 (by simp <;> omega); have x0 := y0.kept j2 (by simp <;> omega)
        refine hK.out _ _ ?_ (fun hHeld => ?_)
        · (try dsimp only); (first | exact hN13.out.c3.kept k3 (by simp) | exact hN13.out.c3.kept k2 (by simp) | exact hN13.out.c3.kept k1 (by simp) | exact hN13.out.c3.kept ((((Kept.refl [] W13).alloc _).alloc _).alloc _).drew (by simp) | exact hN13.out.c3.kept (((Kept.refl [] W13).alloc _).alloc _).drew (by simp) | exact hN13.out.c3.kept ((Kept.refl [] W13).alloc _).drew (by simp) | exact hN13.out.c3.kept (Kept.refl [] W13).drew (by simp))
        clear hK K
        try simp only [Act.put, List.getElem_toArray, List.getElem_cons_succ, List.getElem_cons_zero, List.setIfInBounds_toArray, List.set_cons_zero, List.set_cons_succ]
        refine wpAnyH_ready (rs := [8]) (by kernel_rfl) (by simp) ?_
        refine AllReadyH.cons rfl (fun K hK => ?_) AllReadyH.nil
        rw [if_pos (by rfl)]
        refine wp_store_cel rfl rfl W13.heap.size rfl x0 aC rfl ?_; intro V3 h3 j3; have k3 : Kept [] W13 V3 := k2.trans j3 (by intro z hz; simp at hz; exact .inr (by omega)); have f1 := g1.kept j3 (by simp <;> omega); have f2 := h2.kept j3 (by simp <;> omega)
        refine hK.out _ _ ?_ (fun hHeld => ?_)
        · (try dsimp only); (first | exact hN13.out.c3.kept k3 (by simp) | exact hN13.out.c3.kept k2 (by simp) | exact hN13.out.c3.kept k1 (by simp) | exact hN13.out.c3.kept ((((Kept.refl [] W13).alloc _).alloc _).alloc _).drew (by simp) | exact hN13.out.c3.kept (((Kept.refl [] W13).alloc _).alloc _).drew (by simp) | exact hN13.out.c3.kept ((Kept.refl [] W13).alloc _).drew (by simp) | exact hN13.out.c3.kept (Kept.refl [] W13).drew (by simp))
        clear hK K
        try simp only [Act.put, List.getElem_toArray, List.getElem_cons_succ, List.getElem_cons_zero, List.setIfInBounds_toArray, List.set_cons_zero, List.set_cons_succ]
        refine wpAnyH_done (by kernel_rfl) ?_ _
        go_wp2_with fail; go_meet; exact ⟨_, _, _, rfl, rfl, rfl, f1, f2, h3, by simp <;> omega, by simp <;> omega, by simp <;> omega, by omega, by omega, by omega, k3⟩
  case rest =>
    obtain ⟨B8, B9, B10, rfl, rfl, rfl, h8, h9, h10, n89, n810, n910, m8, m9, m10, hkc⟩ := hcut
    go_upto_region 11 with (first | (refine wpList_store_celM rfl rfl rfl B10 rfl h10b 769 770 771 rfl ?_; intro W17 g10 j17) | (refine wpList_store_celM rfl rfl rfl B9 rfl h9a 769 770 0 rfl ?_; intro W16 g9 j16; have h10b := h10a.kept j16 (by simp; omega)) | (refine wpList_store_celM rfl rfl rfl B8 rfl h8 769 0 0 rfl ?_; intro W15 g8 j15; have h9a := h9.kept j15 (by simp; omega); have h10a := h10.kept j15 (by simp; omega)))
    have hM17 : Hid (CelIn W17 B8 oneC4 ∧ CelIn W17 B9 twoC4 ∧ CelIn W17 B10 thrC4) := hide ⟨(g8.kept j16 (by simp; omega)).kept j17 (by simp; omega), g9.kept j17 (by simp; omega), g10⟩
    have hk17 : Kept [] W13 W17 := ((hkc.trans j15 (by intro z hz; simp at hz; exact .inr (by omega))).trans j16 (by intro z hz; simp at hz; exact .inr (by omega))).trans j17 (by intro z hz; simp at hz; exact .inr (by omega))
    have hN17 := hide (hN13.out.kept hk17)
    have hK17 := hide (hK13.out.trans hk17 (by simp))
    clear hk17 hN13 hK13 hkc j15 j16 j17 g8 g9 g10 h8 h9 h10 h9a h10a h10b n89 n810 n910 m8 m9 m10
    have rp1 := hN17.out.p1.range
    have rp2 := hN17.out.p2.range
    have rc3 := hN17.out.c3.range
    have rc4 := hN17.out.c4.range
    have rc5 := hN17.out.c5.range
    have rc6 := hN17.out.c6.range
    have rc7 := hN17.out.c7.range
    have rc8 := hM17.out.1.range
    have rc9 := hM17.out.2.1.range
    have rc10 := hM17.out.2.2.range
    go_wp2_with (first | refine wpList_load_penW rfl (by rfl) b1 0 rfl rp1 ?_ | refine wpList_load_penW rfl (by rfl) b2 0 rfl rp2 ?_ | refine wpList_load_celW rfl (by rfl) b3 0 rfl rc3 ?_ | refine wpList_load_celW rfl (by rfl) b4 0 rfl rc4 ?_ | refine wpList_load_celW rfl (by rfl) b5 0 rfl rc5 ?_ | refine wpList_load_celW rfl (by rfl) b6 0 rfl rc6 ?_ | refine wpList_load_celW rfl (by rfl) b7 0 rfl rc7 ?_ | refine wpList_load_celW rfl (by rfl) B8 0 rfl rc8 ?_ | refine wpList_load_celW rfl (by rfl) B9 0 rfl rc9 ?_ | refine wpList_load_celW rfl (by rfl) B10 0 rfl rc10 ?_)
    refine (mark_ask aC 769 oneC4 0 true (by decide +kernel) _ (ht0.out.kept hK17.out)).mono ?_
    rintro e W18 ⟨rfl, hj18⟩
    have hk18 : Kept [] W17 W18 := (Kept.refl [] W17).trans hj18 (by simp)
    have hN18 := hide (hN17.out.kept hk18)
    have hK18 := hide (hK17.out.trans hk18 (by simp))
    have hM18 : Hid (CelIn W18 B8 oneC4 ∧ CelIn W18 B9 twoC4 ∧ CelIn W18 B10 thrC4) := hide ⟨hM17.out.1.kept hk18 (by simp), hM17.out.2.1.kept hk18 (by simp), hM17.out.2.2.kept hk18 (by simp)⟩
    clear hj18 hk18 hN17 hK17 hM17
    clear rp1 rp2 rc3 rc4 rc5 rc6 rc7 rc8 rc9 rc10
    have rp1 := hN18.out.p1.range
    have rp2 := hN18.out.p2.range
    have rc3 := hN18.out.c3.range
    have rc4 := hN18.out.c4.range
    have rc5 := hN18.out.c5.range
    have rc6 := hN18.out.c6.range
    have rc7 := hN18.out.c7.range
    have rc8 := hM18.out.1.range
    have rc9 := hM18.out.2.1.range
    have rc10 := hM18.out.2.2.range
    go_wp2_with (first | refine wpList_load_penW rfl (by rfl) b1 0 rfl rp1 ?_ | refine wpList_load_penW rfl (by rfl) b2 0 rfl rp2 ?_ | refine wpList_load_celW rfl (by rfl) b3 0 rfl rc3 ?_ | refine wpList_load_celW rfl (by rfl) b4 0 rfl rc4 ?_ | refine wpList_load_celW rfl (by rfl) b5 0 rfl rc5 ?_ | refine wpList_load_celW rfl (by rfl) b6 0 rfl rc6 ?_ | refine wpList_load_celW rfl (by rfl) b7 0 rfl rc7 ?_ | refine wpList_load_celW rfl (by rfl) B8 0 rfl rc8 ?_ | refine wpList_load_celW rfl (by rfl) B9 0 rfl rc9 ?_ | refine wpList_load_celW rfl (by rfl) B10 0 rfl rc10 ?_)
    refine (mark_ask oneC4 770 twoC4 0 true (by decide +kernel) _ (ht0.out.kept hK18.out)).mono ?_
    rintro e W19 ⟨rfl, hj19⟩
    have hk19 : Kept [] W18 W19 := (Kept.refl [] W18).trans hj19 (by simp)
    have hN19 := hide (hN18.out.kept hk19)
    have hK19 := hide (hK18.out.trans hk19 (by simp))
    have hM19 : Hid (CelIn W19 B8 oneC4 ∧ CelIn W19 B9 twoC4 ∧ CelIn W19 B10 thrC4) := hide ⟨hM18.out.1.kept hk19 (by simp), hM18.out.2.1.kept hk19 (by simp), hM18.out.2.2.kept hk19 (by simp)⟩
    clear hj19 hk19 hN18 hK18 hM18
    clear rp1 rp2 rc3 rc4 rc5 rc6 rc7 rc8 rc9 rc10
    have rp1 := hN19.out.p1.range
    have rp2 := hN19.out.p2.range
    have rc3 := hN19.out.c3.range
    have rc4 := hN19.out.c4.range
    have rc5 := hN19.out.c5.range
    have rc6 := hN19.out.c6.range
    have rc7 := hN19.out.c7.range
    have rc8 := hM19.out.1.range
    have rc9 := hM19.out.2.1.range
    have rc10 := hM19.out.2.2.range
    go_wp2_with (first | refine wpList_load_penW rfl (by rfl) b1 0 rfl rp1 ?_ | refine wpList_load_penW rfl (by rfl) b2 0 rfl rp2 ?_ | refine wpList_load_celW rfl (by rfl) b3 0 rfl rc3 ?_ | refine wpList_load_celW rfl (by rfl) b4 0 rfl rc4 ?_ | refine wpList_load_celW rfl (by rfl) b5 0 rfl rc5 ?_ | refine wpList_load_celW rfl (by rfl) b6 0 rfl rc6 ?_ | refine wpList_load_celW rfl (by rfl) b7 0 rfl rc7 ?_ | refine wpList_load_celW rfl (by rfl) B8 0 rfl rc8 ?_ | refine wpList_load_celW rfl (by rfl) B9 0 rfl rc9 ?_ | refine wpList_load_celW rfl (by rfl) B10 0 rfl rc10 ?_)
    refine (mark_ask twoC4 771 thrC4 0 true (by decide +kernel) _ (ht0.out.kept hK19.out)).mono ?_
    rintro e W20 ⟨rfl, hj20⟩
    have hk20 : Kept [] W19 W20 := (Kept.refl [] W19).trans hj20 (by simp)
    have hN20 := hide (hN19.out.kept hk20)
    have hK20 := hide (hK19.out.trans hk20 (by simp))
    have hM20 : Hid (CelIn W20 B8 oneC4 ∧ CelIn W20 B9 twoC4 ∧ CelIn W20 B10 thrC4) := hide ⟨hM19.out.1.kept hk20 (by simp), hM19.out.2.1.kept hk20 (by simp), hM19.out.2.2.kept hk20 (by simp)⟩
    clear hj20 hk20 hN19 hK19 hM19
    clear rp1 rp2 rc3 rc4 rc5 rc6 rc7 rc8 rc9 rc10
    have rp1 := hN20.out.p1.range
    have rp2 := hN20.out.p2.range
    have rc3 := hN20.out.c3.range
    have rc4 := hN20.out.c4.range
    have rc5 := hN20.out.c5.range
    have rc6 := hN20.out.c6.range
    have rc7 := hN20.out.c7.range
    have rc8 := hM20.out.1.range
    have rc9 := hM20.out.2.1.range
    have rc10 := hM20.out.2.2.range
    go_wp2_with (first | refine wpList_load_penW rfl (by rfl) b1 0 rfl rp1 ?_ | refine wpList_load_penW rfl (by rfl) b2 0 rfl rp2 ?_ | refine wpList_load_celW rfl (by rfl) b3 0 rfl rc3 ?_ | refine wpList_load_celW rfl (by rfl) b4 0 rfl rc4 ?_ | refine wpList_load_celW rfl (by rfl) b5 0 rfl rc5 ?_ | refine wpList_load_celW rfl (by rfl) b6 0 rfl rc6 ?_ | refine wpList_load_celW rfl (by rfl) b7 0 rfl rc7 ?_ | refine wpList_load_celW rfl (by rfl) B8 0 rfl rc8 ?_ | refine wpList_load_celW rfl (by rfl) B9 0 rfl rc9 ?_ | refine wpList_load_celW rfl (by rfl) B10 0 rfl rc10 ?_)
    refine (mark_ask thrC4 772 zeroK 7 true (by decide +kernel) _ (ht0.out.kept hK20.out)).mono ?_
    rintro e W21 ⟨rfl, hj21⟩
    have hk21 : Kept [] W20 W21 := (Kept.refl [] W20).trans hj21 (by simp)
    have hN21 := hide (hN20.out.kept hk21)
    have hK21 := hide (hK20.out.trans hk21 (by simp))
    have hM21 : Hid (CelIn W21 B8 oneC4 ∧ CelIn W21 B9 twoC4 ∧ CelIn W21 B10 thrC4) := hide ⟨hM20.out.1.kept hk21 (by simp), hM20.out.2.1.kept hk21 (by simp), hM20.out.2.2.kept hk21 (by simp)⟩
    clear hj21 hk21 hN20 hK20 hM20
    clear rp1 rp2 rc3 rc4 rc5 rc6 rc7 rc8 rc9 rc10
    have rp1 := hN21.out.p1.range
    have rp2 := hN21.out.p2.range
    have rc3 := hN21.out.c3.range
    have rc4 := hN21.out.c4.range
    have rc5 := hN21.out.c5.range
    have rc6 := hN21.out.c6.range
    have rc7 := hN21.out.c7.range
    have rc8 := hM21.out.1.range
    have rc9 := hM21.out.2.1.range
    have rc10 := hM21.out.2.2.range
    go_wp2_with (first | refine wpList_load_penW rfl (by rfl) b1 0 rfl rp1 ?_ | refine wpList_load_penW rfl (by rfl) b2 0 rfl rp2 ?_ | refine wpList_load_celW rfl (by rfl) b3 0 rfl rc3 ?_ | refine wpList_load_celW rfl (by rfl) b4 0 rfl rc4 ?_ | refine wpList_load_celW rfl (by rfl) b5 0 rfl rc5 ?_ | refine wpList_load_celW rfl (by rfl) b6 0 rfl rc6 ?_ | refine wpList_load_celW rfl (by rfl) b7 0 rfl rc7 ?_ | refine wpList_load_celW rfl (by rfl) B8 0 rfl rc8 ?_ | refine wpList_load_celW rfl (by rfl) B9 0 rfl rc9 ?_ | refine wpList_load_celW rfl (by rfl) B10 0 rfl rc10 ?_)
    refine (mark_ask (blankC zeroP) 769 zeroK 8 true (by decide +kernel) _ (ht0.out.kept hK21.out)).mono ?_
    rintro e W22 ⟨rfl, hj22⟩
    have hk22 : Kept [] W21 W22 := (Kept.refl [] W21).trans hj22 (by simp)
    have hN22 := hide (hN21.out.kept hk22)
    have hK22 := hide (hK21.out.trans hk22 (by simp))
    have hM22 : Hid (CelIn W22 B8 oneC4 ∧ CelIn W22 B9 twoC4 ∧ CelIn W22 B10 thrC4) := hide ⟨hM21.out.1.kept hk22 (by simp), hM21.out.2.1.kept hk22 (by simp), hM21.out.2.2.kept hk22 (by simp)⟩
    clear hj22 hk22 hN21 hK21 hM21
    clear rp1 rp2 rc3 rc4 rc5 rc6 rc7 rc8 rc9 rc10
    have rp1 := hN22.out.p1.range
    have rp2 := hN22.out.p2.range
    have rc3 := hN22.out.c3.range
    have rc4 := hN22.out.c4.range
    have rc5 := hN22.out.c5.range
    have rc6 := hN22.out.c6.range
    have rc7 := hN22.out.c7.range
    have rc8 := hM22.out.1.range
    have rc9 := hM22.out.2.1.range
    have rc10 := hM22.out.2.2.range
    go_wp2_with (first | refine wpList_load_penW rfl (by rfl) b1 0 rfl rp1 ?_ | refine wpList_load_penW rfl (by rfl) b2 0 rfl rp2 ?_ | refine wpList_load_celW rfl (by rfl) b3 0 rfl rc3 ?_ | refine wpList_load_celW rfl (by rfl) b4 0 rfl rc4 ?_ | refine wpList_load_celW rfl (by rfl) b5 0 rfl rc5 ?_ | refine wpList_load_celW rfl (by rfl) b6 0 rfl rc6 ?_ | refine wpList_load_celW rfl (by rfl) b7 0 rfl rc7 ?_ | refine wpList_load_celW rfl (by rfl) B8 0 rfl rc8 ?_ | refine wpList_load_celW rfl (by rfl) B9 0 rfl rc9 ?_ | refine wpList_load_celW rfl (by rfl) B10 0 rfl rc10 ?_)
    refine (mark_ask aC 98 zeroK 2 true (by decide +kernel) _ (ht0.out.kept hK22.out)).mono ?_
    rintro e W23 ⟨rfl, hj23⟩
    have hk23 : Kept [] W22 W23 := (Kept.refl [] W22).trans hj23 (by simp)
    have hN23 := hide (hN22.out.kept hk23)
    have hK23 := hide (hK22.out.trans hk23 (by simp))
    have hM23 : Hid (CelIn W23 B8 oneC4 ∧ CelIn W23 B9 twoC4 ∧ CelIn W23 B10 thrC4) := hide ⟨hM22.out.1.kept hk23 (by simp), hM22.out.2.1.kept hk23 (by simp), hM22.out.2.2.kept hk23 (by simp)⟩
    clear hj23 hk23 hN22 hK22 hM22
    clear rp1 rp2 rc3 rc4 rc5 rc6 rc7 rc8 rc9 rc10
    have rp1 := hN23.out.p1.range
    have rp2 := hN23.out.p2.range
    have rc3 := hN23.out.c3.range
    have rc4 := hN23.out.c4.range
    have rc5 := hN23.out.c5.range
    have rc6 := hN23.out.c6.range
    have rc7 := hN23.out.c7.range
    have rc8 := hM23.out.1.range
    have rc9 := hM23.out.2.1.range
    have rc10 := hM23.out.2.2.range
    go_wp2_with (first | refine wpList_load_penW rfl (by rfl) b1 0 rfl rp1 ?_ | refine wpList_load_penW rfl (by rfl) b2 0 rfl rp2 ?_ | refine wpList_load_celW rfl (by rfl) b3 0 rfl rc3 ?_ | refine wpList_load_celW rfl (by rfl) b4 0 rfl rc4 ?_ | refine wpList_load_celW rfl (by rfl) b5 0 rfl rc5 ?_ | refine wpList_load_celW rfl (by rfl) b6 0 rfl rc6 ?_ | refine wpList_load_celW rfl (by rfl) b7 0 rfl rc7 ?_ | refine wpList_load_celW rfl (by rfl) B8 0 rfl rc8 ?_ | refine wpList_load_celW rfl (by rfl) B9 0 rfl rc9 ?_ | refine wpList_load_celW rfl (by rfl) B10 0 rfl rc10 ?_)
    refine (valid_ask ⟨97, 0, 0, 0, 2, zeroP⟩ false (by decide +kernel) _ (ht0.out.kept hK23.out)).mono ?_
    rintro e W24 ⟨rfl, hj24⟩
    have hk24 : Kept [] W23 W24 := (Kept.refl [] W23).trans hj24 (by simp)
    have hN24 := hide (hN23.out.kept hk24)
    have hK24 := hide (hK23.out.trans hk24 (by simp))
    have hM24 : Hid (CelIn W24 B8 oneC4 ∧ CelIn W24 B9 twoC4 ∧ CelIn W24 B10 thrC4) := hide ⟨hM23.out.1.kept hk24 (by simp), hM23.out.2.1.kept hk24 (by simp), hM23.out.2.2.kept hk24 (by simp)⟩
    clear hj24 hk24 hN23 hK23 hM23
    clear rp1 rp2 rc3 rc4 rc5 rc6 rc7 rc8 rc9 rc10
    have rp1 := hN24.out.p1.range
    have rp2 := hN24.out.p2.range
    have rc3 := hN24.out.c3.range
    have rc4 := hN24.out.c4.range
    have rc5 := hN24.out.c5.range
    have rc6 := hN24.out.c6.range
    have rc7 := hN24.out.c7.range
    have rc8 := hM24.out.1.range
    have rc9 := hM24.out.2.1.range
    have rc10 := hM24.out.2.2.range
    go_wp2_with (first | refine wpList_load_penW rfl (by rfl) b1 0 rfl rp1 ?_ | refine wpList_load_penW rfl (by rfl) b2 0 rfl rp2 ?_ | refine wpList_load_celW rfl (by rfl) b3 0 rfl rc3 ?_ | refine wpList_load_celW rfl (by rfl) b4 0 rfl rc4 ?_ | refine wpList_load_celW rfl (by rfl) b5 0 rfl rc5 ?_ | refine wpList_load_celW rfl (by rfl) b6 0 rfl rc6 ?_ | refine wpList_load_celW rfl (by rfl) b7 0 rfl rc7 ?_ | refine wpList_load_celW rfl (by rfl) B8 0 rfl rc8 ?_ | refine wpList_load_celW rfl (by rfl) B9 0 rfl rc9 ?_ | refine wpList_load_celW rfl (by rfl) B10 0 rfl rc10 ?_)
    refine (valid_ask ⟨0, 0, 0, 0, 2, zeroP⟩ false (by decide +kernel) _ (ht0.out.kept hK24.out)).mono ?_
    rintro e W25 ⟨rfl, hj25⟩
    have hk25 : Kept [] W24 W25 := (Kept.refl [] W24).trans hj25 (by simp)
    have hN25 := hide (hN24.out.kept hk25)
    have hK25 := hide (hK24.out.trans hk25 (by simp))
    have hM25 : Hid (CelIn W25 B8 oneC4 ∧ CelIn W25 B9 twoC4 ∧ CelIn W25 B10 thrC4) := hide ⟨hM24.out.1.kept hk25 (by simp), hM24.out.2.1.kept hk25 (by simp), hM24.out.2.2.kept hk25 (by simp)⟩
    clear hj25 hk25 hN24 hK24 hM24
    clear rp1 rp2 rc3 rc4 rc5 rc6 rc7 rc8 rc9 rc10
    have rp1 := hN25.out.p1.range
    have rp2 := hN25.out.p2.range
    have rc3 := hN25.out.c3.range
    have rc4 := hN25.out.c4.range
    have rc5 := hN25.out.c5.range
    have rc6 := hN25.out.c6.range
    have rc7 := hN25.out.c7.range
    have rc8 := hM25.out.1.range
    have rc9 := hM25.out.2.1.range
    have rc10 := hM25.out.2.2.range
    go_wp2_with (first | refine wpList_load_penW rfl (by rfl) b1 0 rfl rp1 ?_ | refine wpList_load_penW rfl (by rfl) b2 0 rfl rp2 ?_ | refine wpList_load_celW rfl (by rfl) b3 0 rfl rc3 ?_ | refine wpList_load_celW rfl (by rfl) b4 0 rfl rc4 ?_ | refine wpList_load_celW rfl (by rfl) b5 0 rfl rc5 ?_ | refine wpList_load_celW rfl (by rfl) b6 0 rfl rc6 ?_ | refine wpList_load_celW rfl (by rfl) b7 0 rfl rc7 ?_ | refine wpList_load_celW rfl (by rfl) B8 0 rfl rc8 ?_ | refine wpList_load_celW rfl (by rfl) B9 0 rfl rc9 ?_ | refine wpList_load_celW rfl (by rfl) B10 0 rfl rc10 ?_)
    refine (valid_ask ⟨97, 0, 769, 0, 1, zeroP⟩ false (by decide +kernel) _ (ht0.out.kept hK25.out)).mono ?_
    rintro e W26 ⟨rfl, hj26⟩
    have hk26 : Kept [] W25 W26 := (Kept.refl [] W25).trans hj26 (by simp)
    have hN26 := hide (hN25.out.kept hk26)
    have hK26 := hide (hK25.out.trans hk26 (by simp))
    have hM26 : Hid (CelIn W26 B8 oneC4 ∧ CelIn W26 B9 twoC4 ∧ CelIn W26 B10 thrC4) := hide ⟨hM25.out.1.kept hk26 (by simp), hM25.out.2.1.kept hk26 (by simp), hM25.out.2.2.kept hk26 (by simp)⟩
    clear hj26 hk26 hN25 hK25 hM25
    clear rp1 rp2 rc3 rc4 rc5 rc6 rc7 rc8 rc9 rc10
    have rp1 := hN26.out.p1.range
    have rp2 := hN26.out.p2.range
    have rc3 := hN26.out.c3.range
    have rc4 := hN26.out.c4.range
    have rc5 := hN26.out.c5.range
    have rc6 := hN26.out.c6.range
    have rc7 := hN26.out.c7.range
    have rc8 := hM26.out.1.range
    have rc9 := hM26.out.2.1.range
    have rc10 := hM26.out.2.2.range
    go_wp2_with (first | refine wpList_load_penW rfl (by rfl) b1 0 rfl rp1 ?_ | refine wpList_load_penW rfl (by rfl) b2 0 rfl rp2 ?_ | refine wpList_load_celW rfl (by rfl) b3 0 rfl rc3 ?_ | refine wpList_load_celW rfl (by rfl) b4 0 rfl rc4 ?_ | refine wpList_load_celW rfl (by rfl) b5 0 rfl rc5 ?_ | refine wpList_load_celW rfl (by rfl) b6 0 rfl rc6 ?_ | refine wpList_load_celW rfl (by rfl) b7 0 rfl rc7 ?_ | refine wpList_load_celW rfl (by rfl) B8 0 rfl rc8 ?_ | refine wpList_load_celW rfl (by rfl) B9 0 rfl rc9 ?_ | refine wpList_load_celW rfl (by rfl) B10 0 rfl rc10 ?_)
    refine (valid_ask zeroK true (by decide +kernel) _ (ht0.out.kept hK26.out)).mono ?_
    rintro e W27 ⟨rfl, hj27⟩
    have hk27 : Kept [] W26 W27 := (Kept.refl [] W26).trans hj27 (by simp)
    have hN27 := hide (hN26.out.kept hk27)
    have hK27 := hide (hK26.out.trans hk27 (by simp))
    have hM27 : Hid (CelIn W27 B8 oneC4 ∧ CelIn W27 B9 twoC4 ∧ CelIn W27 B10 thrC4) := hide ⟨hM26.out.1.kept hk27 (by simp), hM26.out.2.1.kept hk27 (by simp), hM26.out.2.2.kept hk27 (by simp)⟩
    clear hj27 hk27 hN26 hK26 hM26
    clear rp1 rp2 rc3 rc4 rc5 rc6 rc7 rc8 rc9 rc10
    have rp1 := hN27.out.p1.range
    have rp2 := hN27.out.p2.range
    have rc3 := hN27.out.c3.range
    have rc4 := hN27.out.c4.range
    have rc5 := hN27.out.c5.range
    have rc6 := hN27.out.c6.range
    have rc7 := hN27.out.c7.range
    have rc8 := hM27.out.1.range
    have rc9 := hM27.out.2.1.range
    have rc10 := hM27.out.2.2.range
    go_wp2_with (first | refine wpList_load_penW rfl (by rfl) b1 0 rfl rp1 ?_ | refine wpList_load_penW rfl (by rfl) b2 0 rfl rp2 ?_ | refine wpList_load_celW rfl (by rfl) b3 0 rfl rc3 ?_ | refine wpList_load_celW rfl (by rfl) b4 0 rfl rc4 ?_ | refine wpList_load_celW rfl (by rfl) b5 0 rfl rc5 ?_ | refine wpList_load_celW rfl (by rfl) b6 0 rfl rc6 ?_ | refine wpList_load_celW rfl (by rfl) b7 0 rfl rc7 ?_ | refine wpList_load_celW rfl (by rfl) B8 0 rfl rc8 ?_ | refine wpList_load_celW rfl (by rfl) B9 0 rfl rc9 ?_ | refine wpList_load_celW rfl (by rfl) B10 0 rfl rc10 ?_)
    refine (list_any _ _ _ _).mono ?_
    rintro e w' ⟨rfl, rfl⟩
    go_wp2_with fail
    refine (row_ask [zeroK] false row_1 (some ⟨W27.heap.size, 0, none⟩) 1 1 _ (ht0.out.kept (hK27.out.alloc _)) (Rd.blockC (heap_alloc_new W27 _) rfl) (by omega)).mono ?_
    rintro e W28 ⟨rfl, hj28⟩
    have hk28 : Kept [] W27 W28 := ((Kept.refl [] W27).alloc _).trans hj28 (by simp)
    have hN28 := hide (hN27.out.kept hk28)
    have hK28 := hide (hK27.out.trans hk28 (by simp))
    have hM28 : Hid (CelIn W28 B8 oneC4 ∧ CelIn W28 B9 twoC4 ∧ CelIn W28 B10 thrC4) := hide ⟨hM27.out.1.kept hk28 (by simp), hM27.out.2.1.kept hk28 (by simp), hM27.out.2.2.kept hk28 (by simp)⟩
    clear hj28 hk28 hN27 hK27 hM27
    clear rp1 rp2 rc3 rc4 rc5 rc6 rc7 rc8 rc9 rc10
    have rp1 := hN28.out.p1.range
    have rp2 := hN28.out.p2.range
    have rc3 := hN28.out.c3.range
    have rc4 := hN28.out.c4.range
    have rc5 := hN28.out.c5.range
    have rc6 := hN28.out.c6.range
    have rc7 := hN28.out.c7.range
    have rc8 := hM28.out.1.range
    have rc9 := hM28.out.2.1.range
    have rc10 := hM28.out.2.2.range
    go_wp2_with (first | refine wpList_load_penW rfl (by rfl) b1 0 rfl rp1 ?_ | refine wpList_load_penW rfl (by rfl) b2 0 rfl rp2 ?_ | refine wpList_load_celW rfl (by rfl) b3 0 rfl rc3 ?_ | refine wpList_load_celW rfl (by rfl) b4 0 rfl rc4 ?_ | refine wpList_load_celW rfl (by rfl) b5 0 rfl rc5 ?_ | refine wpList_load_celW rfl (by rfl) b6 0 rfl rc6 ?_ | refine wpList_load_celW rfl (by rfl) b7 0 rfl rc7 ?_ | refine wpList_load_celW rfl (by rfl) B8 0 rfl rc8 ?_ | refine wpList_load_celW rfl (by rfl) B9 0 rfl rc9 ?_ | refine wpList_load_celW rfl (by rfl) B10 0 rfl rc10 ?_)
    refine (list_any _ _ _ _).mono ?_
    rintro e w' ⟨rfl, rfl⟩
    go_wp2_with fail
    refine (row_ask [wdC, spacerC bP] false row_2 (some ⟨W28.heap.size, 0, none⟩) 2 2 _ (ht0.out.kept (hK28.out.alloc _)) (Rd.blockC (heap_alloc_new W28 _) rfl) (by omega)).mono ?_
    rintro e W29 ⟨rfl, hj29⟩
    have hk29 : Kept [] W28 W29 := ((Kept.refl [] W28).alloc _).trans hj29 (by simp)
    have hN29 := hide (hN28.out.kept hk29)
    have hK29 := hide (hK28.out.trans hk29 (by simp))
    have hM29 : Hid (CelIn W29 B8 oneC4 ∧ CelIn W29 B9 twoC4 ∧ CelIn W29 B10 thrC4) := hide ⟨hM28.out.1.kept hk29 (by simp), hM28.out.2.1.kept hk29 (by simp), hM28.out.2.2.kept hk29 (by simp)⟩
    clear hj29 hk29 hN28 hK28 hM28
    clear rp1 rp2 rc3 rc4 rc5 rc6 rc7 rc8 rc9 rc10
    have rp1 := hN29.out.p1.range
    have rp2 := hN29.out.p2.range
    have rc3 := hN29.out.c3.range
    have rc4 := hN29.out.c4.range
    have rc5 := hN29.out.c5.range
    have rc6 := hN29.out.c6.range
    have rc7 := hN29.out.c7.range
    have rc8 := hM29.out.1.range
    have rc9 := hM29.out.2.1.range
    have rc10 := hM29.out.2.2.range
    go_wp2_with (first | refine wpList_load_penW rfl (by rfl) b1 0 rfl rp1 ?_ | refine wpList_load_penW rfl (by rfl) b2 0 rfl rp2 ?_ | refine wpList_load_celW rfl (by rfl) b3 0 rfl rc3 ?_ | refine wpList_load_celW rfl (by rfl) b4 0 rfl rc4 ?_ | refine wpList_load_celW rfl (by rfl) b5 0 rfl rc5 ?_ | refine wpList_load_celW rfl (by rfl) b6 0 rfl rc6 ?_ | refine wpList_load_celW rfl (by rfl) b7 0 rfl rc7 ?_ | refine wpList_load_celW rfl (by rfl) B8 0 rfl rc8 ?_ | refine wpList_load_celW rfl (by rfl) B9 0 rfl rc9 ?_ | refine wpList_load_celW rfl (by rfl) B10 0 rfl rc10 ?_)
    refine (list_any _ _ _ _).mono ?_
    rintro e w' ⟨rfl, rfl⟩
    go_wp2_with fail
    refine (row_ask [wdC] false row_3 (some ⟨W29.heap.size, 0, none⟩) 1 1 _ (ht0.out.kept (hK29.out.alloc _)) (Rd.blockC (heap_alloc_new W29 _) rfl) (by omega)).mono ?_
    rintro e W30 ⟨rfl, hj30⟩
    have hk30 : Kept [] W29 W30 := ((Kept.refl [] W29).alloc _).trans hj30 (by simp)
    have hN30 := hide (hN29.out.kept hk30)
    have hK30 := hide (hK29.out.trans hk30 (by simp))
    have hM30 : Hid (CelIn W30 B8 oneC4 ∧ CelIn W30 B9 twoC4 ∧ CelIn W30 B10 thrC4) := hide ⟨hM29.out.1.kept hk30 (by simp), hM29.out.2.1.kept hk30 (by simp), hM29.out.2.2.kept hk30 (by simp)⟩
    clear hj30 hk30 hN29 hK29 hM29
    clear rp1 rp2 rc3 rc4 rc5 rc6 rc7 rc8 rc9 rc10
    have rp1 := hN30.out.p1.range
    have rp2 := hN30.out.p2.range
    have rc3 := hN30.out.c3.range
    have rc4 := hN30.out.c4.range
    have rc5 := hN30.out.c5.range
    have rc6 := hN30.out.c6.range
    have rc7 := hN30.out.c7.range
    have rc8 := hM30.out.1.range
    have rc9 := hM30.out.2.1.range
    have rc10 := hM30.out.2.2.range
    go_wp2_with (first | refine wpList_load_penW rfl (by rfl) b1 0 rfl rp1 ?_ | refine wpList_load_penW rfl (by rfl) b2 0 rfl rp2 ?_ | refine wpList_load_celW rfl (by rfl) b3 0 rfl rc3 ?_ | refine wpList_load_celW rfl (by rfl) b4 0 rfl rc4 ?_ | refine wpList_load_celW rfl (by rfl) b5 0 rfl rc5 ?_ | refine wpList_load_celW rfl (by rfl) b6 0 rfl rc6 ?_ | refine wpList_load_celW rfl (by rfl) b7 0 rfl rc7 ?_ | refine wpList_load_celW rfl (by rfl) B8 0 rfl rc8 ?_ | refine wpList_load_celW rfl (by rfl) B9 0 rfl rc9 ?_ | refine wpList_load_celW rfl (by rfl) B10 0 rfl rc10 ?_)
    refine (row_ask [] true row_4 none 0 0 _ (ht0.out.kept hK30.out) (Rd.nil _ _ _) (by omega)).mono ?_
    rintro e W31 ⟨rfl, hj31⟩
    have hk31 : Kept [] W30 W31 := (Kept.refl [] W30).trans hj31 (by simp)
    have hN31 := hide (hN30.out.kept hk31)
    have hK31 := hide (hK30.out.trans hk31 (by simp))
    have hM31 : Hid (CelIn W31 B8 oneC4 ∧ CelIn W31 B9 twoC4 ∧ CelIn W31 B10 thrC4) := hide ⟨hM30.out.1.kept hk31 (by simp), hM30.out.2.1.kept hk31 (by simp), hM30.out.2.2.kept hk31 (by simp)⟩
    clear hj31 hk31 hN30 hK30 hM30
    clear rp1 rp2 rc3 rc4 rc5 rc6 rc7 rc8 rc9 rc10
    have rp1 := hN31.out.p1.range
    have rp2 := hN31.out.p2.range
    have rc3 := hN31.out.c3.range
    have rc4 := hN31.out.c4.range
    have rc5 := hN31.out.c5.range
    have rc6 := hN31.out.c6.range
    have rc7 := hN31.out.c7.range
    have rc8 := hM31.out.1.range
    have rc9 := hM31.out.2.1.range
    have rc10 := hM31.out.2.2.range
    go_wp2_with (first | refine wpList_load_penW rfl (by rfl) b1 0 rfl rp1 ?_ | refine wpList_load_penW rfl (by rfl) b2 0 rfl rp2 ?_ | refine wpList_load_celW rfl (by rfl) b3 0 rfl rc3 ?_ | refine wpList_load_celW rfl (by rfl) b4 0 rfl rc4 ?_ | refine wpList_load_celW rfl (by rfl) b5 0 rfl rc5 ?_ | refine wpList_load_celW rfl (by rfl) b6 0 rfl rc6 ?_ | refine wpList_load_celW rfl (by rfl) b7 0 rfl rc7 ?_ | refine wpList_load_celW rfl (by rfl) B8 0 rfl rc8 ?_ | refine wpList_load_celW rfl (by rfl) B9 0 rfl rc9 ?_ | refine wpList_load_celW rfl (by rfl) B10 0 rfl rc10 ?_)
    refine (text_ask oneC4 _ text_one _).mono ?_
    rintro e W32 ⟨rfl, hj32⟩
    have hk32 : Kept [] W31 W32 := (Kept.refl [] W31).trans hj32 (by simp)
    have hN32 := hide (hN31.out.kept hk32)
    have hK32 := hide (hK31.out.trans hk32 (by simp))
    have hM32 : Hid (CelIn W32 B8 oneC4 ∧ CelIn W32 B9 twoC4 ∧ CelIn W32 B10 thrC4) := hide ⟨hM31.out.1.kept hk32 (by simp), hM31.out.2.1.kept hk32 (by simp), hM31.out.2.2.kept hk32 (by simp)⟩
    clear hj32 hk32 hN31 hK31 hM31
    clear rp1 rp2 rc3 rc4 rc5 rc6 rc7 rc8 rc9 rc10
    have rp1 := hN32.out.p1.range
    have rp2 := hN32.out.p2.range
    have rc3 := hN32.out.c3.range
    have rc4 := hN32.out.c4.range
    have rc5 := hN32.out.c5.range
    have rc6 := hN32.out.c6.range
    have rc7 := hN32.out.c7.range
    have rc8 := hM32.out.1.range
    have rc9 := hM32.out.2.1.range
    have rc10 := hM32.out.2.2.range
    go_wp2_with (first | refine wpList_load_penW rfl (by rfl) b1 0 rfl rp1 ?_ | refine wpList_load_penW rfl (by rfl) b2 0 rfl rp2 ?_ | refine wpList_load_celW rfl (by rfl) b3 0 rfl rc3 ?_ | refine wpList_load_celW rfl (by rfl) b4 0 rfl rc4 ?_ | refine wpList_load_celW rfl (by rfl) b5 0 rfl rc5 ?_ | refine wpList_load_celW rfl (by rfl) b6 0 rfl rc6 ?_ | refine wpList_load_celW rfl (by rfl) b7 0 rfl rc7 ?_ | refine wpList_load_celW rfl (by rfl) B8 0 rfl rc8 ?_ | refine wpList_load_celW rfl (by rfl) B9 0 rfl rc9 ?_ | refine wpList_load_celW rfl (by rfl) B10 0 rfl rc10 ?_)
    refine (text_ask (blankC zeroP) _ text_blank _).mono ?_
    rintro e W33 ⟨rfl, hj33⟩
    have hk33 : Kept [] W32 W33 := (Kept.refl [] W32).trans hj33 (by simp)
    have hN33 := hide (hN32.out.kept hk33)
    have hK33 := hide (hK32.out.trans hk33 (by simp))
    have hM33 : Hid (CelIn W33 B8 oneC4 ∧ CelIn W33 B9 twoC4 ∧ CelIn W33 B10 thrC4) := hide ⟨hM32.out.1.kept hk33 (by simp), hM32.out.2.1.kept hk33 (by simp), hM32.out.2.2.kept hk33 (by simp)⟩
    clear hj33 hk33 hN32 hK32 hM32
    clear rp1 rp2 rc3 rc4 rc5 rc6 rc7 rc8 rc9 rc10
    have rp1 := hN33.out.p1.range
    have rp2 := hN33.out.p2.range
    have rc3 := hN33.out.c3.range
    have rc4 := hN33.out.c4.range
    have rc5 := hN33.out.c5.range
    have rc6 := hN33.out.c6.range
    have rc7 := hN33.out.c7.range
    have rc8 := hM33.out.1.range
    have rc9 := hM33.out.2.1.range
    have rc10 := hM33.out.2.2.range
    go_wp2_with (first | refine wpList_load_penW rfl (by rfl) b1 0 rfl rp1 ?_ | refine wpList_load_penW rfl (by rfl) b2 0 rfl rp2 ?_ | refine wpList_load_celW rfl (by rfl) b3 0 rfl rc3 ?_ | refine wpList_load_celW rfl (by rfl) b4 0 rfl rc4 ?_ | refine wpList_load_celW rfl (by rfl) b5 0 rfl rc5 ?_ | refine wpList_load_celW rfl (by rfl) b6 0 rfl rc6 ?_ | refine wpList_load_celW rfl (by rfl) b7 0 rfl rc7 ?_ | refine wpList_load_celW rfl (by rfl) B8 0 rfl rc8 ?_ | refine wpList_load_celW rfl (by rfl) B9 0 rfl rc9 ?_ | refine wpList_load_celW rfl (by rfl) B10 0 rfl rc10 ?_)
    refine (text_ask zeroK _ text_none _).mono ?_
    rintro e W34 ⟨rfl, hj34⟩
    have hk34 : Kept [] W33 W34 := (Kept.refl [] W33).trans hj34 (by simp)
    have hN34 := hide (hN33.out.kept hk34)
    have hK34 := hide (hK33.out.trans hk34 (by simp))
    have hM34 : Hid (CelIn W34 B8 oneC4 ∧ CelIn W34 B9 twoC4 ∧ CelIn W34 B10 thrC4) := hide ⟨hM33.out.1.kept hk34 (by simp), hM33.out.2.1.kept hk34 (by simp), hM33.out.2.2.kept hk34 (by simp)⟩
    clear hj34 hk34 hN33 hK33 hM33
    clear rp1 rp2 rc3 rc4 rc5 rc6 rc7 rc8 rc9 rc10
    have rp1 := hN34.out.p1.range
    have rp2 := hN34.out.p2.range
    have rc3 := hN34.out.c3.range
    have rc4 := hN34.out.c4.range
    have rc5 := hN34.out.c5.range
    have rc6 := hN34.out.c6.range
    have rc7 := hN34.out.c7.range
    have rc8 := hM34.out.1.range
    have rc9 := hM34.out.2.1.range
    have rc10 := hM34.out.2.2.range
    go_wp2_with (first | refine wpList_load_penW rfl (by rfl) b1 0 rfl rp1 ?_ | refine wpList_load_penW rfl (by rfl) b2 0 rfl rp2 ?_ | refine wpList_load_celW rfl (by rfl) b3 0 rfl rc3 ?_ | refine wpList_load_celW rfl (by rfl) b4 0 rfl rc4 ?_ | refine wpList_load_celW rfl (by rfl) b5 0 rfl rc5 ?_ | refine wpList_load_celW rfl (by rfl) b6 0 rfl rc6 ?_ | refine wpList_load_celW rfl (by rfl) b7 0 rfl rc7 ?_ | refine wpList_load_celW rfl (by rfl) B8 0 rfl rc8 ?_ | refine wpList_load_celW rfl (by rfl) B9 0 rfl rc9 ?_ | refine wpList_load_celW rfl (by rfl) B10 0 rfl rc10 ?_)
    refine (list_any _ _ _ _).mono ?_
    rintro e w' ⟨rfl, rfl⟩
    go_wp2_with fail
    refine (texts_ask [wdC, zeroK, blankC zeroP, xC] _ texts_all (some ⟨W34.heap.size, 0, none⟩) 4 4 _ (Rd.blockC (heap_alloc_new W34 _) rfl) (by omega)).mono ?_
    rintro e W35 ⟨rfl, hj35⟩
    have hk35 : Kept [] W34 W35 := ((Kept.refl [] W34).alloc _).trans hj35 (by simp)
    have hN35 := hide (hN34.out.kept hk35)
    have hK35 := hide (hK34.out.trans hk35 (by simp))
    have hM35 : Hid (CelIn W35 B8 oneC4 ∧ CelIn W35 B9 twoC4 ∧ CelIn W35 B10 thrC4) := hide ⟨hM34.out.1.kept hk35 (by simp), hM34.out.2.1.kept hk35 (by simp), hM34.out.2.2.kept hk35 (by simp)⟩
    clear hj35 hk35 hN34 hK34 hM34
    clear rp1 rp2 rc3 rc4 rc5 rc6 rc7 rc8 rc9 rc10
    have rp1 := hN35.out.p1.range
    have rp2 := hN35.out.p2.range
    have rc3 := hN35.out.c3.range
    have rc4 := hN35.out.c4.range
    have rc5 := hN35.out.c5.range
    have rc6 := hN35.out.c6.range
    have rc7 := hN35.out.c7.range
    have rc8 := hM35.out.1.range
    have rc9 := hM35.out.2.1.range
    have rc10 := hM35.out.2.2.range
    have hz11 : CelIn (W35.alloc (.cells #[.int .i32 0, .int .i32 0, .int .i32 0, .int .i32 0, .int .i64 0, .int .i64 0, .int .u8 0, .int .u8 0, .int .u8 0, .int .u8 0, .int .i64 0, .int .u8 0, .int .u8 0, .int .u8 0, .int .u8 0, .int .u8 0] 30)) W35.heap.size zeroK := heap_alloc_new W35 _
    go_upto_region 17 with fail
    go_upto_region 18 with (first | refine wpList_load_penW rfl (by rfl) b1 0 rfl rp1 ?_ | refine wpList_load_penW rfl (by rfl) b2 0 rfl rp2 ?_ | refine wpList_load_celW rfl (by rfl) b3 0 rfl rc3 ?_ | refine wpList_load_celW rfl (by rfl) b4 0 rfl rc4 ?_ | refine wpList_load_celW rfl (by rfl) b5 0 rfl rc5 ?_ | refine wpList_load_celW rfl (by rfl) b6 0 rfl rc6 ?_ | refine wpList_load_celW rfl (by rfl) b7 0 rfl rc7 ?_ | (refine wpList_store_cel rfl rfl rfl W35.heap.size rfl hz11 (blankC bP) rfl ?_; intro X0 c11 jx))
    have hkx : Kept [] W35 X0 := ((Kept.refl [] W35).alloc _).trans jx (by intro z hz; simp at hz; omega)
    have hNx := hide (hN35.out.kept hkx)
    have hKx := hide (hK35.out.trans hkx (by simp))
    have hcx := hide c11
    clear hkx jx c11 hz11 hN35 hK35 hM35
    clear rp1 rp2 rc3 rc4 rc5 rc6 rc7 rc8 rc9 rc10
    generalize hb11 : W35.heap.size = b11 at *
    clear hb11
    have hHB := hide (And.intro hNx.out hcx.out)
    have hKB := hKx
    clear hNx hKx hcx
    refine wp_region_held_drew (S := (fun w' => KnA w' b1 b2 b3 b4 b5 b6 b7 ∧ CelIn w' b11 (blankC bP))) (by kernel_rfl) ?_ (fun hHeld => ?_)
    · (try dsimp only); (first | exact ⟨hHB.out.1.kept (hkY), hHB.out.2.kept (hkY) (by simp)⟩ | exact ⟨hHB.out.1.kept ((((Kept.refl [] X0).alloc _).alloc _).drew), hHB.out.2.kept ((((Kept.refl [] X0).alloc _).alloc _).drew) (by simp)⟩ | exact ⟨hHB.out.1.kept (((Kept.refl [] X0).alloc _).drew), hHB.out.2.kept (((Kept.refl [] X0).alloc _).drew) (by simp)⟩ | exact ⟨hHB.out.1.kept ((Kept.refl [] X0).drew), hHB.out.2.kept ((Kept.refl [] X0).drew) (by simp)⟩)
    refine' share2 (F := fun W => (KnA W b1 b2 b3 b4 b5 b6 b7 ∧ CelIn W b11 (blankC bP)) ∧ Kept [] w W) (fun H => ?k0) ?h0
    case k0 =>
      refine wpAnyH_take (i := 0) (v := .agg #[.int .i32 boldC.r, .int .i32 boldC.m0, .int .i32 boldC.m1, .int .i32 boldC.m2, .int .i64 boldC.w, .int .i64 boldC.p.f.k, .int .u8 boldC.p.f.i, .int .u8 boldC.p.f.r, .int .u8 boldC.p.f.g, .int .u8 boldC.p.f.b, .int .i64 boldC.p.b.k, .int .u8 boldC.p.b.i, .int .u8 boldC.p.b.r, .int .u8 boldC.p.b.g, .int .u8 boldC.p.b.b, .int .u8 boldC.p.fl]) rfl (by kernel_rfl) (by kernel_rfl) (by kernel_rfl) (fun _ _ _ h => h) (yieldsIf_load_mid (by rfl) 30 _ rfl b6 0 rfl (kcL boldC) _ (fun _ h => (And.left h).c6.range) Tryd.underlying30 rfl (by kernel_rfl)) (by assumption) ?_
      try simp only [Act.put, List.getElem_toArray, List.getElem_cons_succ, List.getElem_cons_zero, List.setIfInBounds_toArray, List.set_cons_zero, List.set_cons_succ]
      refine wpAnyH_take (i := 1) (v := ?_) rfl (by kernel_rfl) (by kernel_rfl) (by kernel_rfl) (fun _ _ _ h => h) (Or.inl ⟨by rfl, ?_⟩) (by assumption) ?_
      rotate_left
      · (intro wq hSw; (try dsimp only at hSw); go_simp; try with_reducible rfl)
      try simp only [Act.put, List.getElem_toArray, List.getElem_cons_succ, List.getElem_cons_zero, List.setIfInBounds_toArray, List.set_cons_zero, List.set_cons_succ]
      refine wpAnyH_take (i := 4) (v := .agg #[.int .i32 boldC.r, .int .i32 boldC.m0, .int .i32 boldC.m1, .int .i32 boldC.m2, .int .i64 boldC.w, .int .i64 boldC.p.f.k, .int .u8 boldC.p.f.i, .int .u8 boldC.p.f.r, .int .u8 boldC.p.f.g, .int .u8 boldC.p.f.b, .int .i64 boldC.p.b.k, .int .u8 boldC.p.b.i, .int .u8 boldC.p.b.r, .int .u8 boldC.p.b.g, .int .u8 boldC.p.b.b, .int .u8 boldC.p.fl]) rfl (by kernel_rfl) (by kernel_rfl) (by kernel_rfl) (fun _ _ _ h => h) (yieldsIf_load_mid (by rfl) 30 _ rfl b6 0 rfl (kcL boldC) _ (fun _ h => (And.left h).c6.range) Tryd.underlying30 rfl (by kernel_rfl)) (by assumption) ?_
      try simp only [Act.put, List.getElem_toArray, List.getElem_cons_succ, List.getElem_cons_zero, List.setIfInBounds_toArray, List.set_cons_zero, List.set_cons_succ]
      refine wpAnyH_take (i := 5) (v := .agg #[.int .i32 (spacerC bP).r, .int .i32 (spacerC bP).m0, .int .i32 (spacerC bP).m1, .int .i32 (spacerC bP).m2, .int .i64 (spacerC bP).w, .int .i64 (spacerC bP).p.f.k, .int .u8 (spacerC bP).p.f.i, .int .u8 (spacerC bP).p.f.r, .int .u8 (spacerC bP).p.f.g, .int .u8 (spacerC bP).p.f.b, .int .i64 (spacerC bP).p.b.k, .int .u8 (spacerC bP).p.b.i, .int .u8 (spacerC bP).p.b.r, .int .u8 (spacerC bP).p.b.g, .int .u8 (spacerC bP).p.b.b, .int .u8 (spacerC bP).p.fl]) rfl (by kernel_rfl) (by kernel_rfl) (by kernel_rfl) (fun _ _ _ h => h) (yieldsIf_load_mid (by rfl) 30 _ rfl b7 0 rfl (kcL (spacerC bP)) _ (fun _ h => (And.left h).c7.range) Tryd.underlying30 rfl (by kernel_rfl)) (by assumption) ?_
      try simp only [Act.put, List.getElem_toArray, List.getElem_cons_succ, List.getElem_cons_zero, List.setIfInBounds_toArray, List.set_cons_zero, List.set_cons_succ]
      refine wpAnyH_ready (rs := [2, 6]) (by kernel_rfl) (by simp) ?_
      refine AllReadyH.cons rfl (fun K hK => ?_) (AllReadyH.cons rfl (fun K hK => ?_) AllReadyH.nil)
      · go_simp
        try go_wp2_with fail
        refine hK.out _ _ ?_ (fun hHeld => ?_)
        · (try dsimp only); (first | exact ⟨hHB.out.1.kept (hkY), hHB.out.2.kept (hkY) (by simp)⟩ | exact ⟨hHB.out.1.kept ((((Kept.refl [] X0).alloc _).alloc _).drew), hHB.out.2.kept ((((Kept.refl [] X0).alloc _).alloc _).drew) (by simp)⟩ | exact ⟨hHB.out.1.kept (((Kept.refl [] X0).alloc _).drew), hHB.out.2.kept (((Kept.refl [] X0).alloc _).drew) (by simp)⟩ | exact ⟨hHB.out.1.kept ((Kept.refl [] X0).drew), hHB.out.2.kept ((Kept.refl [] X0).drew) (by simp)⟩)
        clear hK K
        try simp only [Act.put, List.getElem_toArray, List.getElem_cons_succ, List.getElem_cons_zero, List.setIfInBounds_toArray, List.set_cons_zero, List.set_cons_succ]
        refine wpAnyH_ready (rs := [3, 6]) (by kernel_rfl) (by simp) ?_
        refine AllReadyH.cons rfl (fun K hK => ?_) (AllReadyH.cons rfl (fun K hK => ?_) AllReadyH.nil)
        · go_simp
          refine (list_any _ _ _ _).mono ?_
          rintro e w' ⟨rfl, rfl⟩
          try go_wp2_with fail
          refine hK.out _ _ ?_ (fun hHeld => ?_)
          · (try dsimp only); (first | exact ⟨hHB.out.1.kept (hkY), hHB.out.2.kept (hkY) (by simp)⟩ | exact ⟨hHB.out.1.kept ((((Kept.refl [] X0).alloc _).alloc _).drew), hHB.out.2.kept ((((Kept.refl [] X0).alloc _).alloc _).drew) (by simp)⟩ | exact ⟨hHB.out.1.kept (((Kept.refl [] X0).alloc _).drew), hHB.out.2.kept (((Kept.refl [] X0).alloc _).drew) (by simp)⟩ | exact ⟨hHB.out.1.kept ((Kept.refl [] X0).drew), hHB.out.2.kept ((Kept.refl [] X0).drew) (by simp)⟩)
          clear hK K
          try simp only [Act.put, List.getElem_toArray, List.getElem_cons_succ, List.getElem_cons_zero, List.setIfInBounds_toArray, List.set_cons_zero, List.set_cons_succ]
          refine wpAnyH_ready (rs := [6]) (by kernel_rfl) (by simp) ?_
          refine AllReadyH.cons rfl (fun K hK => ?_) AllReadyH.nil
          go_simp
          try go_wp2_with fail
          refine hK.out _ _ ?_ (fun hHeld => ?_)
          · (try dsimp only); (first | exact ⟨hHB.out.1.kept (hkY), hHB.out.2.kept (hkY) (by simp)⟩ | exact ⟨hHB.out.1.kept ((((Kept.refl [] X0).alloc _).alloc _).drew), hHB.out.2.kept ((((Kept.refl [] X0).alloc _).alloc _).drew) (by simp)⟩ | exact ⟨hHB.out.1.kept (((Kept.refl [] X0).alloc _).drew), hHB.out.2.kept (((Kept.refl [] X0).alloc _).drew) (by simp)⟩ | exact ⟨hHB.out.1.kept ((Kept.refl [] X0).drew), hHB.out.2.kept ((Kept.refl [] X0).drew) (by simp)⟩)
          clear hK K
          try simp only [Act.put, List.getElem_toArray, List.getElem_cons_succ, List.getElem_cons_zero, List.setIfInBounds_toArray, List.set_cons_zero, List.set_cons_succ]
          refine wpAnyH_ready (rs := [7]) (by kernel_rfl) (by simp) ?_
          refine AllReadyH.cons rfl (fun K hK => ?_) AllReadyH.nil
          go_simp
          refine (fixes_any _ 2 _ [boldC, zeroK] _ 2 _ [boldC, spacerC bP] true fix_1 _ (Rd.kept (w := X0.alloc _) (Rd.blockC (heap_alloc_new X0 _) (by rfl)) (((Kept.refl [] _).alloc _).drew) (by simp)) (Rd.kept (w := (X0.alloc _).alloc _) (Rd.blockC (heap_new_at (by simp)) (by rfl)) ((Kept.refl [] _).drew) (by simp)) (by omega)).mono ?_
          rintro e Y ⟨rfl, hjY⟩
          have hkY : Kept [] X0 Y := ((((Kept.refl [] X0).alloc _).alloc _).drew).trans hjY (by simp)
          try go_wp2_with fail
          refine hK.out _ _ ?_ (fun hHeld => ?_)
          · (try dsimp only); (first | exact ⟨hHB.out.1.kept (hkY), hHB.out.2.kept (hkY) (by simp)⟩ | exact ⟨hHB.out.1.kept ((((Kept.refl [] X0).alloc _).alloc _).drew), hHB.out.2.kept ((((Kept.refl [] X0).alloc _).alloc _).drew) (by simp)⟩ | exact ⟨hHB.out.1.kept (((Kept.refl [] X0).alloc _).drew), hHB.out.2.kept (((Kept.refl [] X0).alloc _).drew) (by simp)⟩ | exact ⟨hHB.out.1.kept ((Kept.refl [] X0).drew), hHB.out.2.kept ((Kept.refl [] X0).drew) (by simp)⟩)
          clear hK K
          try simp only [Act.put, List.getElem_toArray, List.getElem_cons_succ, List.getElem_cons_zero, List.setIfInBounds_toArray, List.set_cons_zero, List.set_cons_succ]
          generalize (Value.slice (some ⟨X0.heap.size, 0, none⟩) 2 2) = v1
          generalize (Value.slice (some ⟨X0.heap.size + 1, 0, none⟩) 2 2) = v2
          exact H v1 v2 Y ⟨hHeld, hKB.out.trans hkY (by simp)⟩
        · go_simp
          try go_wp2_with fail
          refine hK.out _ _ ?_ (fun hHeld => ?_)
          · (try dsimp only); (first | exact ⟨hHB.out.1.kept (hkY), hHB.out.2.kept (hkY) (by simp)⟩ | exact ⟨hHB.out.1.kept ((((Kept.refl [] X0).alloc _).alloc _).drew), hHB.out.2.kept ((((Kept.refl [] X0).alloc _).alloc _).drew) (by simp)⟩ | exact ⟨hHB.out.1.kept (((Kept.refl [] X0).alloc _).drew), hHB.out.2.kept (((Kept.refl [] X0).alloc _).drew) (by simp)⟩ | exact ⟨hHB.out.1.kept ((Kept.refl [] X0).drew), hHB.out.2.kept ((Kept.refl [] X0).drew) (by simp)⟩)
          clear hK K
          try simp only [Act.put, List.getElem_toArray, List.getElem_cons_succ, List.getElem_cons_zero, List.setIfInBounds_toArray, List.set_cons_zero, List.set_cons_succ]
          refine wpAnyH_ready (rs := [3]) (by kernel_rfl) (by simp) ?_
          refine AllReadyH.cons rfl (fun K hK => ?_) AllReadyH.nil
          go_simp
          refine (list_any _ _ _ _).mono ?_
          rintro e w' ⟨rfl, rfl⟩
          try go_wp2_with fail
          refine hK.out _ _ ?_ (fun hHeld => ?_)
          · (try dsimp only); (first | exact ⟨hHB.out.1.kept (hkY), hHB.out.2.kept (hkY) (by simp)⟩ | exact ⟨hHB.out.1.kept ((((Kept.refl [] X0).alloc _).alloc _).drew), hHB.out.2.kept ((((Kept.refl [] X0).alloc _).alloc _).drew) (by simp)⟩ | exact ⟨hHB.out.1.kept (((Kept.refl [] X0).alloc _).drew), hHB.out.2.kept (((Kept.refl [] X0).alloc _).drew) (by simp)⟩ | exact ⟨hHB.out.1.kept ((Kept.refl [] X0).drew), hHB.out.2.kept ((Kept.refl [] X0).drew) (by simp)⟩)
          clear hK K
          try simp only [Act.put, List.getElem_toArray, List.getElem_cons_succ, List.getElem_cons_zero, List.setIfInBounds_toArray, List.set_cons_zero, List.set_cons_succ]
          refine wpAnyH_ready (rs := [7]) (by kernel_rfl) (by simp) ?_
          refine AllReadyH.cons rfl (fun K hK => ?_) AllReadyH.nil
          go_simp
          refine (fixes_any _ 2 _ [boldC, zeroK] _ 2 _ [boldC, spacerC bP] true fix_1 _ (Rd.kept (w := X0.alloc _) (Rd.blockC (heap_alloc_new X0 _) (by rfl)) (((Kept.refl [] _).alloc _).drew) (by simp)) (Rd.kept (w := (X0.alloc _).alloc _) (Rd.blockC (heap_new_at (by simp)) (by rfl)) ((Kept.refl [] _).drew) (by simp)) (by omega)).mono ?_
          rintro e Y ⟨rfl, hjY⟩
          have hkY : Kept [] X0 Y := ((((Kept.refl [] X0).alloc _).alloc _).drew).trans hjY (by simp)
          try go_wp2_with fail
          refine hK.out _ _ ?_ (fun hHeld => ?_)
          · (try dsimp only); (first | exact ⟨hHB.out.1.kept (hkY), hHB.out.2.kept (hkY) (by simp)⟩ | exact ⟨hHB.out.1.kept ((((Kept.refl [] X0).alloc _).alloc _).drew), hHB.out.2.kept ((((Kept.refl [] X0).alloc _).alloc _).drew) (by simp)⟩ | exact ⟨hHB.out.1.kept (((Kept.refl [] X0).alloc _).drew), hHB.out.2.kept (((Kept.refl [] X0).alloc _).drew) (by simp)⟩ | exact ⟨hHB.out.1.kept ((Kept.refl [] X0).drew), hHB.out.2.kept ((Kept.refl [] X0).drew) (by simp)⟩)
          clear hK K
          try simp only [Act.put, List.getElem_toArray, List.getElem_cons_succ, List.getElem_cons_zero, List.setIfInBounds_toArray, List.set_cons_zero, List.set_cons_succ]
          generalize (Value.slice (some ⟨X0.heap.size, 0, none⟩) 2 2) = v1
          generalize (Value.slice (some ⟨X0.heap.size + 1, 0, none⟩) 2 2) = v2
          exact H v1 v2 Y ⟨hHeld, hKB.out.trans hkY (by simp)⟩
      · go_simp
        try go_wp2_with fail
        refine hK.out _ _ ?_ (fun hHeld => ?_)
        · (try dsimp only); (first | exact ⟨hHB.out.1.kept (hkY), hHB.out.2.kept (hkY) (by simp)⟩ | exact ⟨hHB.out.1.kept ((((Kept.refl [] X0).alloc _).alloc _).drew), hHB.out.2.kept ((((Kept.refl [] X0).alloc _).alloc _).drew) (by simp)⟩ | exact ⟨hHB.out.1.kept (((Kept.refl [] X0).alloc _).drew), hHB.out.2.kept (((Kept.refl [] X0).alloc _).drew) (by simp)⟩ | exact ⟨hHB.out.1.kept ((Kept.refl [] X0).drew), hHB.out.2.kept ((Kept.refl [] X0).drew) (by simp)⟩)
        clear hK K
        try simp only [Act.put, List.getElem_toArray, List.getElem_cons_succ, List.getElem_cons_zero, List.setIfInBounds_toArray, List.set_cons_zero, List.set_cons_succ]
        refine wpAnyH_ready (rs := [2]) (by kernel_rfl) (by simp) ?_
        refine AllReadyH.cons rfl (fun K hK => ?_) AllReadyH.nil
        go_simp
        try go_wp2_with fail
        refine hK.out _ _ ?_ (fun hHeld => ?_)
        · (try dsimp only); (first | exact ⟨hHB.out.1.kept (hkY), hHB.out.2.kept (hkY) (by simp)⟩ | exact ⟨hHB.out.1.kept ((((Kept.refl [] X0).alloc _).alloc _).drew), hHB.out.2.kept ((((Kept.refl [] X0).alloc _).alloc _).drew) (by simp)⟩ | exact ⟨hHB.out.1.kept (((Kept.refl [] X0).alloc _).drew), hHB.out.2.kept (((Kept.refl [] X0).alloc _).drew) (by simp)⟩ | exact ⟨hHB.out.1.kept ((Kept.refl [] X0).drew), hHB.out.2.kept ((Kept.refl [] X0).drew) (by simp)⟩)
        clear hK K
        try simp only [Act.put, List.getElem_toArray, List.getElem_cons_succ, List.getElem_cons_zero, List.setIfInBounds_toArray, List.set_cons_zero, List.set_cons_succ]
        refine wpAnyH_ready (rs := [3]) (by kernel_rfl) (by simp) ?_
        refine AllReadyH.cons rfl (fun K hK => ?_) AllReadyH.nil
        go_simp
        refine (list_any _ _ _ _).mono ?_
        rintro e w' ⟨rfl, rfl⟩
        try go_wp2_with fail
        refine hK.out _ _ ?_ (fun hHeld => ?_)
        · (try dsimp only); (first | exact ⟨hHB.out.1.kept (hkY), hHB.out.2.kept (hkY) (by simp)⟩ | exact ⟨hHB.out.1.kept ((((Kept.refl [] X0).alloc _).alloc _).drew), hHB.out.2.kept ((((Kept.refl [] X0).alloc _).alloc _).drew) (by simp)⟩ | exact ⟨hHB.out.1.kept (((Kept.refl [] X0).alloc _).drew), hHB.out.2.kept (((Kept.refl [] X0).alloc _).drew) (by simp)⟩ | exact ⟨hHB.out.1.kept ((Kept.refl [] X0).drew), hHB.out.2.kept ((Kept.refl [] X0).drew) (by simp)⟩)
        clear hK K
        try simp only [Act.put, List.getElem_toArray, List.getElem_cons_succ, List.getElem_cons_zero, List.setIfInBounds_toArray, List.set_cons_zero, List.set_cons_succ]
        refine wpAnyH_ready (rs := [7]) (by kernel_rfl) (by simp) ?_
        refine AllReadyH.cons rfl (fun K hK => ?_) AllReadyH.nil
        go_simp
        refine (fixes_any _ 2 _ [boldC, zeroK] _ 2 _ [boldC, spacerC bP] true fix_1 _ (Rd.kept (w := (X0.alloc _).alloc _) (Rd.blockC (heap_new_at (by simp)) (by rfl)) ((Kept.refl [] _).drew) (by simp)) (Rd.kept (w := X0.alloc _) (Rd.blockC (heap_alloc_new X0 _) (by rfl)) (((Kept.refl [] _).alloc _).drew) (by simp)) (by omega)).mono ?_
        rintro e Y ⟨rfl, hjY⟩
        have hkY : Kept [] X0 Y := ((((Kept.refl [] X0).alloc _).alloc _).drew).trans hjY (by simp)
        try go_wp2_with fail
        refine hK.out _ _ ?_ (fun hHeld => ?_)
        · (try dsimp only); (first | exact ⟨hHB.out.1.kept (hkY), hHB.out.2.kept (hkY) (by simp)⟩ | exact ⟨hHB.out.1.kept ((((Kept.refl [] X0).alloc _).alloc _).drew), hHB.out.2.kept ((((Kept.refl [] X0).alloc _).alloc _).drew) (by simp)⟩ | exact ⟨hHB.out.1.kept (((Kept.refl [] X0).alloc _).drew), hHB.out.2.kept (((Kept.refl [] X0).alloc _).drew) (by simp)⟩ | exact ⟨hHB.out.1.kept ((Kept.refl [] X0).drew), hHB.out.2.kept ((Kept.refl [] X0).drew) (by simp)⟩)
        clear hK K
        try simp only [Act.put, List.getElem_toArray, List.getElem_cons_succ, List.getElem_cons_zero, List.setIfInBounds_toArray, List.set_cons_zero, List.set_cons_succ]
        generalize (Value.slice (some ⟨X0.heap.size + 1, 0, none⟩) 2 2) = v1
        generalize (Value.slice (some ⟨X0.heap.size, 0, none⟩) 2 2) = v2
        exact H v1 v2 Y ⟨hHeld, hKB.out.trans hkY (by simp)⟩
    case' h0 => intro w1 w2 X1 hF
    have hHeld := hF.1
    have hHB := hide hF.1
    have hKB := hide hF.2
    clear hF
    refine wpAnyH_take (i := 8) (v := ?_) rfl (by kernel_rfl) (by kernel_rfl) (by kernel_rfl) (fun _ _ _ h => h) (Or.inl ⟨by rfl, ?_⟩) (by assumption) ?_
    rotate_left
    · (intro wq hSw; (try dsimp only at hSw); go_simp; try with_reducible rfl)
    try simp only [Act.put, List.getElem_toArray, List.getElem_cons_succ, List.getElem_cons_zero, List.setIfInBounds_toArray, List.set_cons_zero, List.set_cons_succ]
    refine' share2 (F := fun W => (KnA W b1 b2 b3 b4 b5 b6 b7 ∧ CelIn W b11 (blankC bP)) ∧ Kept [] w W) (fun H => ?k1) ?h1
    case k1 =>
      refine wpAnyH_take (i := 9) (v := .agg #[.int .i32 (spacerC bP).r, .int .i32 (spacerC bP).m0, .int .i32 (spacerC bP).m1, .int .i32 (spacerC bP).m2, .int .i64 (spacerC bP).w, .int .i64 (spacerC bP).p.f.k, .int .u8 (spacerC bP).p.f.i, .int .u8 (spacerC bP).p.f.r, .int .u8 (spacerC bP).p.f.g, .int .u8 (spacerC bP).p.f.b, .int .i64 (spacerC bP).p.b.k, .int .u8 (spacerC bP).p.b.i, .int .u8 (spacerC bP).p.b.r, .int .u8 (spacerC bP).p.b.g, .int .u8 (spacerC bP).p.b.b, .int .u8 (spacerC bP).p.fl]) rfl (by kernel_rfl) (by kernel_rfl) (by kernel_rfl) (fun _ _ _ h => h) (yieldsIf_load_mid (by rfl) 30 _ rfl b7 0 rfl (kcL (spacerC bP)) _ (fun _ h => (And.left h).c7.range) Tryd.underlying30 rfl (by kernel_rfl)) (by assumption) ?_
      try simp only [Act.put, List.getElem_toArray, List.getElem_cons_succ, List.getElem_cons_zero, List.setIfInBounds_toArray, List.set_cons_zero, List.set_cons_succ]
      refine wpAnyH_take (i := 10) (v := .agg #[.int .i32 aC.r, .int .i32 aC.m0, .int .i32 aC.m1, .int .i32 aC.m2, .int .i64 aC.w, .int .i64 aC.p.f.k, .int .u8 aC.p.f.i, .int .u8 aC.p.f.r, .int .u8 aC.p.f.g, .int .u8 aC.p.f.b, .int .i64 aC.p.b.k, .int .u8 aC.p.b.i, .int .u8 aC.p.b.r, .int .u8 aC.p.b.g, .int .u8 aC.p.b.b, .int .u8 aC.p.fl]) rfl (by kernel_rfl) (by kernel_rfl) (by kernel_rfl) (fun _ _ _ h => h) (yieldsIf_load_mid (by rfl) 30 _ rfl b3 0 rfl (kcL aC) _ (fun _ h => (And.left h).c3.range) Tryd.underlying30 rfl (by kernel_rfl)) (by assumption) ?_
      try simp only [Act.put, List.getElem_toArray, List.getElem_cons_succ, List.getElem_cons_zero, List.setIfInBounds_toArray, List.set_cons_zero, List.set_cons_succ]
      refine wpAnyH_take (i := 13) (v := .agg #[.int .i32 (blankC bP).r, .int .i32 (blankC bP).m0, .int .i32 (blankC bP).m1, .int .i32 (blankC bP).m2, .int .i64 (blankC bP).w, .int .i64 (blankC bP).p.f.k, .int .u8 (blankC bP).p.f.i, .int .u8 (blankC bP).p.f.r, .int .u8 (blankC bP).p.f.g, .int .u8 (blankC bP).p.f.b, .int .i64 (blankC bP).p.b.k, .int .u8 (blankC bP).p.b.i, .int .u8 (blankC bP).p.b.r, .int .u8 (blankC bP).p.b.g, .int .u8 (blankC bP).p.b.b, .int .u8 (blankC bP).p.fl]) rfl (by kernel_rfl) (by kernel_rfl) (by kernel_rfl) (fun _ _ _ h => h) (yieldsIf_load_mid (by rfl) 30 _ rfl b11 0 rfl (kcL (blankC bP)) _ (fun _ h => (And.right h).range) Tryd.underlying30 rfl (by kernel_rfl)) (by assumption) ?_
      try simp only [Act.put, List.getElem_toArray, List.getElem_cons_succ, List.getElem_cons_zero, List.setIfInBounds_toArray, List.set_cons_zero, List.set_cons_succ]
      refine wpAnyH_take (i := 14) (v := .agg #[.int .i32 aC.r, .int .i32 aC.m0, .int .i32 aC.m1, .int .i32 aC.m2, .int .i64 aC.w, .int .i64 aC.p.f.k, .int .u8 aC.p.f.i, .int .u8 aC.p.f.r, .int .u8 aC.p.f.g, .int .u8 aC.p.f.b, .int .i64 aC.p.b.k, .int .u8 aC.p.b.i, .int .u8 aC.p.b.r, .int .u8 aC.p.b.g, .int .u8 aC.p.b.b, .int .u8 aC.p.fl]) rfl (by kernel_rfl) (by kernel_rfl) (by kernel_rfl) (fun _ _ _ h => h) (yieldsIf_load_mid (by rfl) 30 _ rfl b3 0 rfl (kcL aC) _ (fun _ h => (And.left h).c3.range) Tryd.underlying30 rfl (by kernel_rfl)) (by assumption) ?_
      try simp only [Act.put, List.getElem_toArray, List.getElem_cons_succ, List.getElem_cons_zero, List.setIfInBounds_toArray, List.set_cons_zero, List.set_cons_succ]
      refine wpAnyH_ready (rs := [11, 15]) (by kernel_rfl) (by simp) ?_
      refine AllReadyH.cons rfl (fun K hK => ?_) (AllReadyH.cons rfl (fun K hK => ?_) AllReadyH.nil)
      · go_simp
        try go_wp2_with fail
        refine hK.out _ _ ?_ (fun hHeld => ?_)
        · (try dsimp only); (first | exact ⟨hHB.out.1.kept (hkY), hHB.out.2.kept (hkY) (by simp)⟩ | exact ⟨hHB.out.1.kept ((((Kept.refl [] X1).alloc _).alloc _)), hHB.out.2.kept ((((Kept.refl [] X1).alloc _).alloc _)) (by simp)⟩ | exact ⟨hHB.out.1.kept (((Kept.refl [] X1).alloc _)), hHB.out.2.kept (((Kept.refl [] X1).alloc _)) (by simp)⟩ | exact ⟨hHB.out.1.kept ((Kept.refl [] X1)), hHB.out.2.kept ((Kept.refl [] X1)) (by simp)⟩)
        clear hK K
        try simp only [Act.put, List.getElem_toArray, List.getElem_cons_succ, List.getElem_cons_zero, List.setIfInBounds_toArray, List.set_cons_zero, List.set_cons_succ]
        refine wpAnyH_ready (rs := [12, 15]) (by kernel_rfl) (by simp) ?_
        refine AllReadyH.cons rfl (fun K hK => ?_) (AllReadyH.cons rfl (fun K hK => ?_) AllReadyH.nil)
        · go_simp
          refine (list_any _ _ _ _).mono ?_
          rintro e w' ⟨rfl, rfl⟩
          try go_wp2_with fail
          refine hK.out _ _ ?_ (fun hHeld => ?_)
          · (try dsimp only); (first | exact ⟨hHB.out.1.kept (hkY), hHB.out.2.kept (hkY) (by simp)⟩ | exact ⟨hHB.out.1.kept ((((Kept.refl [] X1).alloc _).alloc _)), hHB.out.2.kept ((((Kept.refl [] X1).alloc _).alloc _)) (by simp)⟩ | exact ⟨hHB.out.1.kept (((Kept.refl [] X1).alloc _)), hHB.out.2.kept (((Kept.refl [] X1).alloc _)) (by simp)⟩ | exact ⟨hHB.out.1.kept ((Kept.refl [] X1)), hHB.out.2.kept ((Kept.refl [] X1)) (by simp)⟩)
          clear hK K
          try simp only [Act.put, List.getElem_toArray, List.getElem_cons_succ, List.getElem_cons_zero, List.setIfInBounds_toArray, List.set_cons_zero, List.set_cons_succ]
          refine wpAnyH_ready (rs := [15]) (by kernel_rfl) (by simp) ?_
          refine AllReadyH.cons rfl (fun K hK => ?_) AllReadyH.nil
          go_simp
          try go_wp2_with fail
          refine hK.out _ _ ?_ (fun hHeld => ?_)
          · (try dsimp only); (first | exact ⟨hHB.out.1.kept (hkY), hHB.out.2.kept (hkY) (by simp)⟩ | exact ⟨hHB.out.1.kept ((((Kept.refl [] X1).alloc _).alloc _)), hHB.out.2.kept ((((Kept.refl [] X1).alloc _).alloc _)) (by simp)⟩ | exact ⟨hHB.out.1.kept (((Kept.refl [] X1).alloc _)), hHB.out.2.kept (((Kept.refl [] X1).alloc _)) (by simp)⟩ | exact ⟨hHB.out.1.kept ((Kept.refl [] X1)), hHB.out.2.kept ((Kept.refl [] X1)) (by simp)⟩)
          clear hK K
          try simp only [Act.put, List.getElem_toArray, List.getElem_cons_succ, List.getElem_cons_zero, List.setIfInBounds_toArray, List.set_cons_zero, List.set_cons_succ]
          refine wpAnyH_ready (rs := [16]) (by kernel_rfl) (by simp) ?_
          refine AllReadyH.cons rfl (fun K hK => ?_) AllReadyH.nil
          go_simp
          refine (fixes_any _ 2 _ [spacerC bP, aC] _ 2 _ [blankC bP, aC] true fix_2 _ (Rd.kept (w := X1.alloc _) (Rd.blockC (heap_alloc_new X1 _) (by rfl)) (((Kept.refl [] _).alloc _)) (by simp)) (Rd.kept (w := (X1.alloc _).alloc _) (Rd.blockC (heap_new_at (by simp)) (by rfl)) ((Kept.refl [] _)) (by simp)) (by omega)).mono ?_
          rintro e Y ⟨rfl, hjY⟩
          have hkY : Kept [] X1 Y := ((((Kept.refl [] X1).alloc _).alloc _)).trans hjY (by simp)
          try go_wp2_with fail
          refine hK.out _ _ ?_ (fun hHeld => ?_)
          · (try dsimp only); (first | exact ⟨hHB.out.1.kept (hkY), hHB.out.2.kept (hkY) (by simp)⟩ | exact ⟨hHB.out.1.kept ((((Kept.refl [] X1).alloc _).alloc _)), hHB.out.2.kept ((((Kept.refl [] X1).alloc _).alloc _)) (by simp)⟩ | exact ⟨hHB.out.1.kept (((Kept.refl [] X1).alloc _)), hHB.out.2.kept (((Kept.refl [] X1).alloc _)) (by simp)⟩ | exact ⟨hHB.out.1.kept ((Kept.refl [] X1)), hHB.out.2.kept ((Kept.refl [] X1)) (by simp)⟩)
          clear hK K
          try simp only [Act.put, List.getElem_toArray, List.getElem_cons_succ, List.getElem_cons_zero, List.setIfInBounds_toArray, List.set_cons_zero, List.set_cons_succ]
          generalize (Value.slice (some ⟨X1.heap.size, 0, none⟩) 2 2) = v1
          generalize (Value.slice (some ⟨X1.heap.size + 1, 0, none⟩) 2 2) = v2
          exact H v1 v2 Y ⟨hHeld, hKB.out.trans hkY (by simp)⟩
        · go_simp
          try go_wp2_with fail
          refine hK.out _ _ ?_ (fun hHeld => ?_)
          · (try dsimp only); (first | exact ⟨hHB.out.1.kept (hkY), hHB.out.2.kept (hkY) (by simp)⟩ | exact ⟨hHB.out.1.kept ((((Kept.refl [] X1).alloc _).alloc _)), hHB.out.2.kept ((((Kept.refl [] X1).alloc _).alloc _)) (by simp)⟩ | exact ⟨hHB.out.1.kept (((Kept.refl [] X1).alloc _)), hHB.out.2.kept (((Kept.refl [] X1).alloc _)) (by simp)⟩ | exact ⟨hHB.out.1.kept ((Kept.refl [] X1)), hHB.out.2.kept ((Kept.refl [] X1)) (by simp)⟩)
          clear hK K
          try simp only [Act.put, List.getElem_toArray, List.getElem_cons_succ, List.getElem_cons_zero, List.setIfInBounds_toArray, List.set_cons_zero, List.set_cons_succ]
          refine wpAnyH_ready (rs := [12]) (by kernel_rfl) (by simp) ?_
          refine AllReadyH.cons rfl (fun K hK => ?_) AllReadyH.nil
          go_simp
          refine (list_any _ _ _ _).mono ?_
          rintro e w' ⟨rfl, rfl⟩
          try go_wp2_with fail
          refine hK.out _ _ ?_ (fun hHeld => ?_)
          · (try dsimp only); (first | exact ⟨hHB.out.1.kept (hkY), hHB.out.2.kept (hkY) (by simp)⟩ | exact ⟨hHB.out.1.kept ((((Kept.refl [] X1).alloc _).alloc _)), hHB.out.2.kept ((((Kept.refl [] X1).alloc _).alloc _)) (by simp)⟩ | exact ⟨hHB.out.1.kept (((Kept.refl [] X1).alloc _)), hHB.out.2.kept (((Kept.refl [] X1).alloc _)) (by simp)⟩ | exact ⟨hHB.out.1.kept ((Kept.refl [] X1)), hHB.out.2.kept ((Kept.refl [] X1)) (by simp)⟩)
          clear hK K
          try simp only [Act.put, List.getElem_toArray, List.getElem_cons_succ, List.getElem_cons_zero, List.setIfInBounds_toArray, List.set_cons_zero, List.set_cons_succ]
          refine wpAnyH_ready (rs := [16]) (by kernel_rfl) (by simp) ?_
          refine AllReadyH.cons rfl (fun K hK => ?_) AllReadyH.nil
          go_simp
          refine (fixes_any _ 2 _ [spacerC bP, aC] _ 2 _ [blankC bP, aC] true fix_2 _ (Rd.kept (w := X1.alloc _) (Rd.blockC (heap_alloc_new X1 _) (by rfl)) (((Kept.refl [] _).alloc _)) (by simp)) (Rd.kept (w := (X1.alloc _).alloc _) (Rd.blockC (heap_new_at (by simp)) (by rfl)) ((Kept.refl [] _)) (by simp)) (by omega)).mono ?_
          rintro e Y ⟨rfl, hjY⟩
          have hkY : Kept [] X1 Y := ((((Kept.refl [] X1).alloc _).alloc _)).trans hjY (by simp)
          try go_wp2_with fail
          refine hK.out _ _ ?_ (fun hHeld => ?_)
          · (try dsimp only); (first | exact ⟨hHB.out.1.kept (hkY), hHB.out.2.kept (hkY) (by simp)⟩ | exact ⟨hHB.out.1.kept ((((Kept.refl [] X1).alloc _).alloc _)), hHB.out.2.kept ((((Kept.refl [] X1).alloc _).alloc _)) (by simp)⟩ | exact ⟨hHB.out.1.kept (((Kept.refl [] X1).alloc _)), hHB.out.2.kept (((Kept.refl [] X1).alloc _)) (by simp)⟩ | exact ⟨hHB.out.1.kept ((Kept.refl [] X1)), hHB.out.2.kept ((Kept.refl [] X1)) (by simp)⟩)
          clear hK K
          try simp only [Act.put, List.getElem_toArray, List.getElem_cons_succ, List.getElem_cons_zero, List.setIfInBounds_toArray, List.set_cons_zero, List.set_cons_succ]
          generalize (Value.slice (some ⟨X1.heap.size, 0, none⟩) 2 2) = v1
          generalize (Value.slice (some ⟨X1.heap.size + 1, 0, none⟩) 2 2) = v2
          exact H v1 v2 Y ⟨hHeld, hKB.out.trans hkY (by simp)⟩
      · go_simp
        try go_wp2_with fail
        refine hK.out _ _ ?_ (fun hHeld => ?_)
        · (try dsimp only); (first | exact ⟨hHB.out.1.kept (hkY), hHB.out.2.kept (hkY) (by simp)⟩ | exact ⟨hHB.out.1.kept ((((Kept.refl [] X1).alloc _).alloc _)), hHB.out.2.kept ((((Kept.refl [] X1).alloc _).alloc _)) (by simp)⟩ | exact ⟨hHB.out.1.kept (((Kept.refl [] X1).alloc _)), hHB.out.2.kept (((Kept.refl [] X1).alloc _)) (by simp)⟩ | exact ⟨hHB.out.1.kept ((Kept.refl [] X1)), hHB.out.2.kept ((Kept.refl [] X1)) (by simp)⟩)
        clear hK K
        try simp only [Act.put, List.getElem_toArray, List.getElem_cons_succ, List.getElem_cons_zero, List.setIfInBounds_toArray, List.set_cons_zero, List.set_cons_succ]
        refine wpAnyH_ready (rs := [11]) (by kernel_rfl) (by simp) ?_
        refine AllReadyH.cons rfl (fun K hK => ?_) AllReadyH.nil
        go_simp
        try go_wp2_with fail
        refine hK.out _ _ ?_ (fun hHeld => ?_)
        · (try dsimp only); (first | exact ⟨hHB.out.1.kept (hkY), hHB.out.2.kept (hkY) (by simp)⟩ | exact ⟨hHB.out.1.kept ((((Kept.refl [] X1).alloc _).alloc _)), hHB.out.2.kept ((((Kept.refl [] X1).alloc _).alloc _)) (by simp)⟩ | exact ⟨hHB.out.1.kept (((Kept.refl [] X1).alloc _)), hHB.out.2.kept (((Kept.refl [] X1).alloc _)) (by simp)⟩ | exact ⟨hHB.out.1.kept ((Kept.refl [] X1)), hHB.out.2.kept ((Kept.refl [] X1)) (by simp)⟩)
        clear hK K
        try simp only [Act.put, List.getElem_toArray, List.getElem_cons_succ, List.getElem_cons_zero, List.setIfInBounds_toArray, List.set_cons_zero, List.set_cons_succ]
        refine wpAnyH_ready (rs := [12]) (by kernel_rfl) (by simp) ?_
        refine AllReadyH.cons rfl (fun K hK => ?_) AllReadyH.nil
        go_simp
        refine (list_any _ _ _ _).mono ?_
        rintro e w' ⟨rfl, rfl⟩
        try go_wp2_with fail
        refine hK.out _ _ ?_ (fun hHeld => ?_)
        · (try dsimp only); (first | exact ⟨hHB.out.1.kept (hkY), hHB.out.2.kept (hkY) (by simp)⟩ | exact ⟨hHB.out.1.kept ((((Kept.refl [] X1).alloc _).alloc _)), hHB.out.2.kept ((((Kept.refl [] X1).alloc _).alloc _)) (by simp)⟩ | exact ⟨hHB.out.1.kept (((Kept.refl [] X1).alloc _)), hHB.out.2.kept (((Kept.refl [] X1).alloc _)) (by simp)⟩ | exact ⟨hHB.out.1.kept ((Kept.refl [] X1)), hHB.out.2.kept ((Kept.refl [] X1)) (by simp)⟩)
        clear hK K
        try simp only [Act.put, List.getElem_toArray, List.getElem_cons_succ, List.getElem_cons_zero, List.setIfInBounds_toArray, List.set_cons_zero, List.set_cons_succ]
        refine wpAnyH_ready (rs := [16]) (by kernel_rfl) (by simp) ?_
        refine AllReadyH.cons rfl (fun K hK => ?_) AllReadyH.nil
        go_simp
        refine (fixes_any _ 2 _ [spacerC bP, aC] _ 2 _ [blankC bP, aC] true fix_2 _ (Rd.kept (w := (X1.alloc _).alloc _) (Rd.blockC (heap_new_at (by simp)) (by rfl)) ((Kept.refl [] _)) (by simp)) (Rd.kept (w := X1.alloc _) (Rd.blockC (heap_alloc_new X1 _) (by rfl)) (((Kept.refl [] _).alloc _)) (by simp)) (by omega)).mono ?_
        rintro e Y ⟨rfl, hjY⟩
        have hkY : Kept [] X1 Y := ((((Kept.refl [] X1).alloc _).alloc _)).trans hjY (by simp)
        try go_wp2_with fail
        refine hK.out _ _ ?_ (fun hHeld => ?_)
        · (try dsimp only); (first | exact ⟨hHB.out.1.kept (hkY), hHB.out.2.kept (hkY) (by simp)⟩ | exact ⟨hHB.out.1.kept ((((Kept.refl [] X1).alloc _).alloc _)), hHB.out.2.kept ((((Kept.refl [] X1).alloc _).alloc _)) (by simp)⟩ | exact ⟨hHB.out.1.kept (((Kept.refl [] X1).alloc _)), hHB.out.2.kept (((Kept.refl [] X1).alloc _)) (by simp)⟩ | exact ⟨hHB.out.1.kept ((Kept.refl [] X1)), hHB.out.2.kept ((Kept.refl [] X1)) (by simp)⟩)
        clear hK K
        try simp only [Act.put, List.getElem_toArray, List.getElem_cons_succ, List.getElem_cons_zero, List.setIfInBounds_toArray, List.set_cons_zero, List.set_cons_succ]
        generalize (Value.slice (some ⟨X1.heap.size + 1, 0, none⟩) 2 2) = v1
        generalize (Value.slice (some ⟨X1.heap.size, 0, none⟩) 2 2) = v2
        exact H v1 v2 Y ⟨hHeld, hKB.out.trans hkY (by simp)⟩
    case' h1 => intro w1 w2 X2 hF
    have hHeld := hF.1
    have hHB := hide hF.1
    have hKB := hide hF.2
    clear hF
    refine wpAnyH_take (i := 17) (v := ?_) rfl (by kernel_rfl) (by kernel_rfl) (by kernel_rfl) (fun _ _ _ h => h) (Or.inl ⟨by rfl, ?_⟩) (by assumption) ?_
    rotate_left
    · (intro wq hSw; (try dsimp only at hSw); go_simp; try with_reducible rfl)
    try simp only [Act.put, List.getElem_toArray, List.getElem_cons_succ, List.getElem_cons_zero, List.setIfInBounds_toArray, List.set_cons_zero, List.set_cons_succ]
    refine wpAnyH_take (i := 18) (v := ?_) rfl (by kernel_rfl) (by kernel_rfl) (by kernel_rfl) (fun _ _ _ h => h) (Or.inl ⟨by rfl, ?_⟩) (by assumption) ?_
    rotate_left
    · (intro wq hSw; (try dsimp only at hSw); go_simp; try with_reducible rfl)
    try simp only [Act.put, List.getElem_toArray, List.getElem_cons_succ, List.getElem_cons_zero, List.setIfInBounds_toArray, List.set_cons_zero, List.set_cons_succ]
    refine' share2 (F := fun W => (KnA W b1 b2 b3 b4 b5 b6 b7 ∧ CelIn W b11 (blankC bP)) ∧ Kept [] w W) (fun H => ?k2) ?h2
    case k2 =>
      refine wpAnyH_take (i := 19) (v := .agg #[.int .i32 aC.r, .int .i32 aC.m0, .int .i32 aC.m1, .int .i32 aC.m2, .int .i64 aC.w, .int .i64 aC.p.f.k, .int .u8 aC.p.f.i, .int .u8 aC.p.f.r, .int .u8 aC.p.f.g, .int .u8 aC.p.f.b, .int .i64 aC.p.b.k, .int .u8 aC.p.b.i, .int .u8 aC.p.b.r, .int .u8 aC.p.b.g, .int .u8 aC.p.b.b, .int .u8 aC.p.fl]) rfl (by kernel_rfl) (by kernel_rfl) (by kernel_rfl) (fun _ _ _ h => h) (yieldsIf_load_mid (by rfl) 30 _ rfl b3 0 rfl (kcL aC) _ (fun _ h => (And.left h).c3.range) Tryd.underlying30 rfl (by kernel_rfl)) (by assumption) ?_
      try simp only [Act.put, List.getElem_toArray, List.getElem_cons_succ, List.getElem_cons_zero, List.setIfInBounds_toArray, List.set_cons_zero, List.set_cons_succ]
      refine wpAnyH_take (i := 20) (v := .agg #[.int .i32 boldC.r, .int .i32 boldC.m0, .int .i32 boldC.m1, .int .i32 boldC.m2, .int .i64 boldC.w, .int .i64 boldC.p.f.k, .int .u8 boldC.p.f.i, .int .u8 boldC.p.f.r, .int .u8 boldC.p.f.g, .int .u8 boldC.p.f.b, .int .i64 boldC.p.b.k, .int .u8 boldC.p.b.i, .int .u8 boldC.p.b.r, .int .u8 boldC.p.b.g, .int .u8 boldC.p.b.b, .int .u8 boldC.p.fl]) rfl (by kernel_rfl) (by kernel_rfl) (by kernel_rfl) (fun _ _ _ h => h) (yieldsIf_load_mid (by rfl) 30 _ rfl b6 0 rfl (kcL boldC) _ (fun _ h => (And.left h).c6.range) Tryd.underlying30 rfl (by kernel_rfl)) (by assumption) ?_
      try simp only [Act.put, List.getElem_toArray, List.getElem_cons_succ, List.getElem_cons_zero, List.setIfInBounds_toArray, List.set_cons_zero, List.set_cons_succ]
      refine wpAnyH_take (i := 23) (v := .agg #[.int .i32 aC.r, .int .i32 aC.m0, .int .i32 aC.m1, .int .i32 aC.m2, .int .i64 aC.w, .int .i64 aC.p.f.k, .int .u8 aC.p.f.i, .int .u8 aC.p.f.r, .int .u8 aC.p.f.g, .int .u8 aC.p.f.b, .int .i64 aC.p.b.k, .int .u8 aC.p.b.i, .int .u8 aC.p.b.r, .int .u8 aC.p.b.g, .int .u8 aC.p.b.b, .int .u8 aC.p.fl]) rfl (by kernel_rfl) (by kernel_rfl) (by kernel_rfl) (fun _ _ _ h => h) (yieldsIf_load_mid (by rfl) 30 _ rfl b3 0 rfl (kcL aC) _ (fun _ h => (And.left h).c3.range) Tryd.underlying30 rfl (by kernel_rfl)) (by assumption) ?_
      try simp only [Act.put, List.getElem_toArray, List.getElem_cons_succ, List.getElem_cons_zero, List.setIfInBounds_toArray, List.set_cons_zero, List.set_cons_succ]
      refine wpAnyH_take (i := 24) (v := .agg #[.int .i32 (blankC bP).r, .int .i32 (blankC bP).m0, .int .i32 (blankC bP).m1, .int .i32 (blankC bP).m2, .int .i64 (blankC bP).w, .int .i64 (blankC bP).p.f.k, .int .u8 (blankC bP).p.f.i, .int .u8 (blankC bP).p.f.r, .int .u8 (blankC bP).p.f.g, .int .u8 (blankC bP).p.f.b, .int .i64 (blankC bP).p.b.k, .int .u8 (blankC bP).p.b.i, .int .u8 (blankC bP).p.b.r, .int .u8 (blankC bP).p.b.g, .int .u8 (blankC bP).p.b.b, .int .u8 (blankC bP).p.fl]) rfl (by kernel_rfl) (by kernel_rfl) (by kernel_rfl) (fun _ _ _ h => h) (yieldsIf_load_mid (by rfl) 30 _ rfl b11 0 rfl (kcL (blankC bP)) _ (fun _ h => (And.right h).range) Tryd.underlying30 rfl (by kernel_rfl)) (by assumption) ?_
      try simp only [Act.put, List.getElem_toArray, List.getElem_cons_succ, List.getElem_cons_zero, List.setIfInBounds_toArray, List.set_cons_zero, List.set_cons_succ]
      refine wpAnyH_ready (rs := [21, 25]) (by kernel_rfl) (by simp) ?_
      refine AllReadyH.cons rfl (fun K hK => ?_) (AllReadyH.cons rfl (fun K hK => ?_) AllReadyH.nil)
      · go_simp
        try go_wp2_with fail
        refine hK.out _ _ ?_ (fun hHeld => ?_)
        · (try dsimp only); (first | exact ⟨hHB.out.1.kept (hkY), hHB.out.2.kept (hkY) (by simp)⟩ | exact ⟨hHB.out.1.kept ((((Kept.refl [] X2).alloc _).alloc _)), hHB.out.2.kept ((((Kept.refl [] X2).alloc _).alloc _)) (by simp)⟩ | exact ⟨hHB.out.1.kept (((Kept.refl [] X2).alloc _)), hHB.out.2.kept (((Kept.refl [] X2).alloc _)) (by simp)⟩ | exact ⟨hHB.out.1.kept ((Kept.refl [] X2)), hHB.out.2.kept ((Kept.refl [] X2)) (by simp)⟩)
        clear hK K
        try simp only [Act.put, List.getElem_toArray, List.getElem_cons_succ, List.getElem_cons_zero, List.setIfInBounds_toArray, List.set_cons_zero, List.set_cons_succ]
        refine wpAnyH_ready (rs := [22, 25]) (by kernel_rfl) (by simp) ?_
        refine AllReadyH.cons rfl (fun K hK => ?_) (AllReadyH.cons rfl (fun K hK => ?_) AllReadyH.nil)
        · go_simp
          refine (list_any _ _ _ _).mono ?_
          rintro e w' ⟨rfl, rfl⟩
          try go_wp2_with fail
          refine hK.out _ _ ?_ (fun hHeld => ?_)
          · (try dsimp only); (first | exact ⟨hHB.out.1.kept (hkY), hHB.out.2.kept (hkY) (by simp)⟩ | exact ⟨hHB.out.1.kept ((((Kept.refl [] X2).alloc _).alloc _)), hHB.out.2.kept ((((Kept.refl [] X2).alloc _).alloc _)) (by simp)⟩ | exact ⟨hHB.out.1.kept (((Kept.refl [] X2).alloc _)), hHB.out.2.kept (((Kept.refl [] X2).alloc _)) (by simp)⟩ | exact ⟨hHB.out.1.kept ((Kept.refl [] X2)), hHB.out.2.kept ((Kept.refl [] X2)) (by simp)⟩)
          clear hK K
          try simp only [Act.put, List.getElem_toArray, List.getElem_cons_succ, List.getElem_cons_zero, List.setIfInBounds_toArray, List.set_cons_zero, List.set_cons_succ]
          refine wpAnyH_ready (rs := [25]) (by kernel_rfl) (by simp) ?_
          refine AllReadyH.cons rfl (fun K hK => ?_) AllReadyH.nil
          go_simp
          try go_wp2_with fail
          refine hK.out _ _ ?_ (fun hHeld => ?_)
          · (try dsimp only); (first | exact ⟨hHB.out.1.kept (hkY), hHB.out.2.kept (hkY) (by simp)⟩ | exact ⟨hHB.out.1.kept ((((Kept.refl [] X2).alloc _).alloc _)), hHB.out.2.kept ((((Kept.refl [] X2).alloc _).alloc _)) (by simp)⟩ | exact ⟨hHB.out.1.kept (((Kept.refl [] X2).alloc _)), hHB.out.2.kept (((Kept.refl [] X2).alloc _)) (by simp)⟩ | exact ⟨hHB.out.1.kept ((Kept.refl [] X2)), hHB.out.2.kept ((Kept.refl [] X2)) (by simp)⟩)
          clear hK K
          try simp only [Act.put, List.getElem_toArray, List.getElem_cons_succ, List.getElem_cons_zero, List.setIfInBounds_toArray, List.set_cons_zero, List.set_cons_succ]
          refine wpAnyH_ready (rs := [26]) (by kernel_rfl) (by simp) ?_
          refine AllReadyH.cons rfl (fun K hK => ?_) AllReadyH.nil
          go_simp
          refine (fixes_any _ 2 _ [aC, boldC] _ 2 _ [aC, blankC bP] true fix_3 _ (Rd.kept (w := X2.alloc _) (Rd.blockC (heap_alloc_new X2 _) (by rfl)) (((Kept.refl [] _).alloc _)) (by simp)) (Rd.kept (w := (X2.alloc _).alloc _) (Rd.blockC (heap_new_at (by simp)) (by rfl)) ((Kept.refl [] _)) (by simp)) (by omega)).mono ?_
          rintro e Y ⟨rfl, hjY⟩
          have hkY : Kept [] X2 Y := ((((Kept.refl [] X2).alloc _).alloc _)).trans hjY (by simp)
          try go_wp2_with fail
          refine hK.out _ _ ?_ (fun hHeld => ?_)
          · (try dsimp only); (first | exact ⟨hHB.out.1.kept (hkY), hHB.out.2.kept (hkY) (by simp)⟩ | exact ⟨hHB.out.1.kept ((((Kept.refl [] X2).alloc _).alloc _)), hHB.out.2.kept ((((Kept.refl [] X2).alloc _).alloc _)) (by simp)⟩ | exact ⟨hHB.out.1.kept (((Kept.refl [] X2).alloc _)), hHB.out.2.kept (((Kept.refl [] X2).alloc _)) (by simp)⟩ | exact ⟨hHB.out.1.kept ((Kept.refl [] X2)), hHB.out.2.kept ((Kept.refl [] X2)) (by simp)⟩)
          clear hK K
          try simp only [Act.put, List.getElem_toArray, List.getElem_cons_succ, List.getElem_cons_zero, List.setIfInBounds_toArray, List.set_cons_zero, List.set_cons_succ]
          generalize (Value.slice (some ⟨X2.heap.size, 0, none⟩) 2 2) = v1
          generalize (Value.slice (some ⟨X2.heap.size + 1, 0, none⟩) 2 2) = v2
          exact H v1 v2 Y ⟨hHeld, hKB.out.trans hkY (by simp)⟩
        · go_simp
          try go_wp2_with fail
          refine hK.out _ _ ?_ (fun hHeld => ?_)
          · (try dsimp only); (first | exact ⟨hHB.out.1.kept (hkY), hHB.out.2.kept (hkY) (by simp)⟩ | exact ⟨hHB.out.1.kept ((((Kept.refl [] X2).alloc _).alloc _)), hHB.out.2.kept ((((Kept.refl [] X2).alloc _).alloc _)) (by simp)⟩ | exact ⟨hHB.out.1.kept (((Kept.refl [] X2).alloc _)), hHB.out.2.kept (((Kept.refl [] X2).alloc _)) (by simp)⟩ | exact ⟨hHB.out.1.kept ((Kept.refl [] X2)), hHB.out.2.kept ((Kept.refl [] X2)) (by simp)⟩)
          clear hK K
          try simp only [Act.put, List.getElem_toArray, List.getElem_cons_succ, List.getElem_cons_zero, List.setIfInBounds_toArray, List.set_cons_zero, List.set_cons_succ]
          refine wpAnyH_ready (rs := [22]) (by kernel_rfl) (by simp) ?_
          refine AllReadyH.cons rfl (fun K hK => ?_) AllReadyH.nil
          go_simp
          refine (list_any _ _ _ _).mono ?_
          rintro e w' ⟨rfl, rfl⟩
          try go_wp2_with fail
          refine hK.out _ _ ?_ (fun hHeld => ?_)
          · (try dsimp only); (first | exact ⟨hHB.out.1.kept (hkY), hHB.out.2.kept (hkY) (by simp)⟩ | exact ⟨hHB.out.1.kept ((((Kept.refl [] X2).alloc _).alloc _)), hHB.out.2.kept ((((Kept.refl [] X2).alloc _).alloc _)) (by simp)⟩ | exact ⟨hHB.out.1.kept (((Kept.refl [] X2).alloc _)), hHB.out.2.kept (((Kept.refl [] X2).alloc _)) (by simp)⟩ | exact ⟨hHB.out.1.kept ((Kept.refl [] X2)), hHB.out.2.kept ((Kept.refl [] X2)) (by simp)⟩)
          clear hK K
          try simp only [Act.put, List.getElem_toArray, List.getElem_cons_succ, List.getElem_cons_zero, List.setIfInBounds_toArray, List.set_cons_zero, List.set_cons_succ]
          refine wpAnyH_ready (rs := [26]) (by kernel_rfl) (by simp) ?_
          refine AllReadyH.cons rfl (fun K hK => ?_) AllReadyH.nil
          go_simp
          refine (fixes_any _ 2 _ [aC, boldC] _ 2 _ [aC, blankC bP] true fix_3 _ (Rd.kept (w := X2.alloc _) (Rd.blockC (heap_alloc_new X2 _) (by rfl)) (((Kept.refl [] _).alloc _)) (by simp)) (Rd.kept (w := (X2.alloc _).alloc _) (Rd.blockC (heap_new_at (by simp)) (by rfl)) ((Kept.refl [] _)) (by simp)) (by omega)).mono ?_
          rintro e Y ⟨rfl, hjY⟩
          have hkY : Kept [] X2 Y := ((((Kept.refl [] X2).alloc _).alloc _)).trans hjY (by simp)
          try go_wp2_with fail
          refine hK.out _ _ ?_ (fun hHeld => ?_)
          · (try dsimp only); (first | exact ⟨hHB.out.1.kept (hkY), hHB.out.2.kept (hkY) (by simp)⟩ | exact ⟨hHB.out.1.kept ((((Kept.refl [] X2).alloc _).alloc _)), hHB.out.2.kept ((((Kept.refl [] X2).alloc _).alloc _)) (by simp)⟩ | exact ⟨hHB.out.1.kept (((Kept.refl [] X2).alloc _)), hHB.out.2.kept (((Kept.refl [] X2).alloc _)) (by simp)⟩ | exact ⟨hHB.out.1.kept ((Kept.refl [] X2)), hHB.out.2.kept ((Kept.refl [] X2)) (by simp)⟩)
          clear hK K
          try simp only [Act.put, List.getElem_toArray, List.getElem_cons_succ, List.getElem_cons_zero, List.setIfInBounds_toArray, List.set_cons_zero, List.set_cons_succ]
          generalize (Value.slice (some ⟨X2.heap.size, 0, none⟩) 2 2) = v1
          generalize (Value.slice (some ⟨X2.heap.size + 1, 0, none⟩) 2 2) = v2
          exact H v1 v2 Y ⟨hHeld, hKB.out.trans hkY (by simp)⟩
      · go_simp
        try go_wp2_with fail
        refine hK.out _ _ ?_ (fun hHeld => ?_)
        · (try dsimp only); (first | exact ⟨hHB.out.1.kept (hkY), hHB.out.2.kept (hkY) (by simp)⟩ | exact ⟨hHB.out.1.kept ((((Kept.refl [] X2).alloc _).alloc _)), hHB.out.2.kept ((((Kept.refl [] X2).alloc _).alloc _)) (by simp)⟩ | exact ⟨hHB.out.1.kept (((Kept.refl [] X2).alloc _)), hHB.out.2.kept (((Kept.refl [] X2).alloc _)) (by simp)⟩ | exact ⟨hHB.out.1.kept ((Kept.refl [] X2)), hHB.out.2.kept ((Kept.refl [] X2)) (by simp)⟩)
        clear hK K
        try simp only [Act.put, List.getElem_toArray, List.getElem_cons_succ, List.getElem_cons_zero, List.setIfInBounds_toArray, List.set_cons_zero, List.set_cons_succ]
        refine wpAnyH_ready (rs := [21]) (by kernel_rfl) (by simp) ?_
        refine AllReadyH.cons rfl (fun K hK => ?_) AllReadyH.nil
        go_simp
        try go_wp2_with fail
        refine hK.out _ _ ?_ (fun hHeld => ?_)
        · (try dsimp only); (first | exact ⟨hHB.out.1.kept (hkY), hHB.out.2.kept (hkY) (by simp)⟩ | exact ⟨hHB.out.1.kept ((((Kept.refl [] X2).alloc _).alloc _)), hHB.out.2.kept ((((Kept.refl [] X2).alloc _).alloc _)) (by simp)⟩ | exact ⟨hHB.out.1.kept (((Kept.refl [] X2).alloc _)), hHB.out.2.kept (((Kept.refl [] X2).alloc _)) (by simp)⟩ | exact ⟨hHB.out.1.kept ((Kept.refl [] X2)), hHB.out.2.kept ((Kept.refl [] X2)) (by simp)⟩)
        clear hK K
        try simp only [Act.put, List.getElem_toArray, List.getElem_cons_succ, List.getElem_cons_zero, List.setIfInBounds_toArray, List.set_cons_zero, List.set_cons_succ]
        refine wpAnyH_ready (rs := [22]) (by kernel_rfl) (by simp) ?_
        refine AllReadyH.cons rfl (fun K hK => ?_) AllReadyH.nil
        go_simp
        refine (list_any _ _ _ _).mono ?_
        rintro e w' ⟨rfl, rfl⟩
        try go_wp2_with fail
        refine hK.out _ _ ?_ (fun hHeld => ?_)
        · (try dsimp only); (first | exact ⟨hHB.out.1.kept (hkY), hHB.out.2.kept (hkY) (by simp)⟩ | exact ⟨hHB.out.1.kept ((((Kept.refl [] X2).alloc _).alloc _)), hHB.out.2.kept ((((Kept.refl [] X2).alloc _).alloc _)) (by simp)⟩ | exact ⟨hHB.out.1.kept (((Kept.refl [] X2).alloc _)), hHB.out.2.kept (((Kept.refl [] X2).alloc _)) (by simp)⟩ | exact ⟨hHB.out.1.kept ((Kept.refl [] X2)), hHB.out.2.kept ((Kept.refl [] X2)) (by simp)⟩)
        clear hK K
        try simp only [Act.put, List.getElem_toArray, List.getElem_cons_succ, List.getElem_cons_zero, List.setIfInBounds_toArray, List.set_cons_zero, List.set_cons_succ]
        refine wpAnyH_ready (rs := [26]) (by kernel_rfl) (by simp) ?_
        refine AllReadyH.cons rfl (fun K hK => ?_) AllReadyH.nil
        go_simp
        refine (fixes_any _ 2 _ [aC, boldC] _ 2 _ [aC, blankC bP] true fix_3 _ (Rd.kept (w := (X2.alloc _).alloc _) (Rd.blockC (heap_new_at (by simp)) (by rfl)) ((Kept.refl [] _)) (by simp)) (Rd.kept (w := X2.alloc _) (Rd.blockC (heap_alloc_new X2 _) (by rfl)) (((Kept.refl [] _).alloc _)) (by simp)) (by omega)).mono ?_
        rintro e Y ⟨rfl, hjY⟩
        have hkY : Kept [] X2 Y := ((((Kept.refl [] X2).alloc _).alloc _)).trans hjY (by simp)
        try go_wp2_with fail
        refine hK.out _ _ ?_ (fun hHeld => ?_)
        · (try dsimp only); (first | exact ⟨hHB.out.1.kept (hkY), hHB.out.2.kept (hkY) (by simp)⟩ | exact ⟨hHB.out.1.kept ((((Kept.refl [] X2).alloc _).alloc _)), hHB.out.2.kept ((((Kept.refl [] X2).alloc _).alloc _)) (by simp)⟩ | exact ⟨hHB.out.1.kept (((Kept.refl [] X2).alloc _)), hHB.out.2.kept (((Kept.refl [] X2).alloc _)) (by simp)⟩ | exact ⟨hHB.out.1.kept ((Kept.refl [] X2)), hHB.out.2.kept ((Kept.refl [] X2)) (by simp)⟩)
        clear hK K
        try simp only [Act.put, List.getElem_toArray, List.getElem_cons_succ, List.getElem_cons_zero, List.setIfInBounds_toArray, List.set_cons_zero, List.set_cons_succ]
        generalize (Value.slice (some ⟨X2.heap.size + 1, 0, none⟩) 2 2) = v1
        generalize (Value.slice (some ⟨X2.heap.size, 0, none⟩) 2 2) = v2
        exact H v1 v2 Y ⟨hHeld, hKB.out.trans hkY (by simp)⟩
    case' h2 => intro w1 w2 X3 hF
    have hHeld := hF.1
    have hHB := hide hF.1
    have hKB := hide hF.2
    clear hF
    refine wpAnyH_take (i := 27) (v := ?_) rfl (by kernel_rfl) (by kernel_rfl) (by kernel_rfl) (fun _ _ _ h => h) (Or.inl ⟨by rfl, ?_⟩) (by assumption) ?_
    rotate_left
    · (intro wq hSw; (try dsimp only at hSw); go_simp; try with_reducible rfl)
    try simp only [Act.put, List.getElem_toArray, List.getElem_cons_succ, List.getElem_cons_zero, List.setIfInBounds_toArray, List.set_cons_zero, List.set_cons_succ]
    refine wpAnyH_take (i := 28) (v := ?_) rfl (by kernel_rfl) (by kernel_rfl) (by kernel_rfl) (fun _ _ _ h => h) (Or.inl ⟨by rfl, ?_⟩) (by assumption) ?_
    rotate_left
    · (intro wq hSw; (try dsimp only at hSw); go_simp; try with_reducible rfl)
    try simp only [Act.put, List.getElem_toArray, List.getElem_cons_succ, List.getElem_cons_zero, List.setIfInBounds_toArray, List.set_cons_zero, List.set_cons_succ]
    refine' share2 (F := fun W => (KnA W b1 b2 b3 b4 b5 b6 b7 ∧ CelIn W b11 (blankC bP)) ∧ Kept [] w W) (fun H => ?k3) ?h3
    case k3 =>
      refine wpAnyH_take (i := 29) (v := .agg #[.int .i32 wdC.r, .int .i32 wdC.m0, .int .i32 wdC.m1, .int .i32 wdC.m2, .int .i64 wdC.w, .int .i64 wdC.p.f.k, .int .u8 wdC.p.f.i, .int .u8 wdC.p.f.r, .int .u8 wdC.p.f.g, .int .u8 wdC.p.f.b, .int .i64 wdC.p.b.k, .int .u8 wdC.p.b.i, .int .u8 wdC.p.b.r, .int .u8 wdC.p.b.g, .int .u8 wdC.p.b.b, .int .u8 wdC.p.fl]) rfl (by kernel_rfl) (by kernel_rfl) (by kernel_rfl) (fun _ _ _ h => h) (yieldsIf_load_mid (by rfl) 30 _ rfl b4 0 rfl (kcL wdC) _ (fun _ h => (And.left h).c4.range) Tryd.underlying30 rfl (by kernel_rfl)) (by assumption) ?_
      try simp only [Act.put, List.getElem_toArray, List.getElem_cons_succ, List.getElem_cons_zero, List.setIfInBounds_toArray, List.set_cons_zero, List.set_cons_succ]
      refine wpAnyH_take (i := 30) (v := .agg #[.int .i32 wdC.r, .int .i32 wdC.m0, .int .i32 wdC.m1, .int .i32 wdC.m2, .int .i64 wdC.w, .int .i64 wdC.p.f.k, .int .u8 wdC.p.f.i, .int .u8 wdC.p.f.r, .int .u8 wdC.p.f.g, .int .u8 wdC.p.f.b, .int .i64 wdC.p.b.k, .int .u8 wdC.p.b.i, .int .u8 wdC.p.b.r, .int .u8 wdC.p.b.g, .int .u8 wdC.p.b.b, .int .u8 wdC.p.fl]) rfl (by kernel_rfl) (by kernel_rfl) (by kernel_rfl) (fun _ _ _ h => h) (yieldsIf_load_mid (by rfl) 30 _ rfl b4 0 rfl (kcL wdC) _ (fun _ h => (And.left h).c4.range) Tryd.underlying30 rfl (by kernel_rfl)) (by assumption) ?_
      try simp only [Act.put, List.getElem_toArray, List.getElem_cons_succ, List.getElem_cons_zero, List.setIfInBounds_toArray, List.set_cons_zero, List.set_cons_succ]
      refine wpAnyH_take (i := 31) (v := ?_) rfl (by kernel_rfl) (by kernel_rfl) (by kernel_rfl) (fun _ _ _ h => h) (Or.inl ⟨by rfl, ?_⟩) (by assumption) ?_
      rotate_left
      · (intro wq hSw; (try dsimp only at hSw); go_simp; try with_reducible rfl)
      try simp only [Act.put, List.getElem_toArray, List.getElem_cons_succ, List.getElem_cons_zero, List.setIfInBounds_toArray, List.set_cons_zero, List.set_cons_succ]
      refine wpAnyH_take (i := 34) (v := .agg #[.int .i32 (blankC zeroP).r, .int .i32 (blankC zeroP).m0, .int .i32 (blankC zeroP).m1, .int .i32 (blankC zeroP).m2, .int .i64 (blankC zeroP).w, .int .i64 (blankC zeroP).p.f.k, .int .u8 (blankC zeroP).p.f.i, .int .u8 (blankC zeroP).p.f.r, .int .u8 (blankC zeroP).p.f.g, .int .u8 (blankC zeroP).p.f.b, .int .i64 (blankC zeroP).p.b.k, .int .u8 (blankC zeroP).p.b.i, .int .u8 (blankC zeroP).p.b.r, .int .u8 (blankC zeroP).p.b.g, .int .u8 (blankC zeroP).p.b.b, .int .u8 (blankC zeroP).p.fl]) rfl (by kernel_rfl) (by kernel_rfl) (by kernel_rfl) (fun _ _ _ h => h) (yieldsIf_load_mid (by rfl) 30 _ rfl b5 0 rfl (kcL (blankC zeroP)) _ (fun _ h => (And.left h).c5.range) Tryd.underlying30 rfl (by kernel_rfl)) (by assumption) ?_
      try simp only [Act.put, List.getElem_toArray, List.getElem_cons_succ, List.getElem_cons_zero, List.setIfInBounds_toArray, List.set_cons_zero, List.set_cons_succ]
      refine wpAnyH_take (i := 35) (v := .agg #[.int .i32 wdC.r, .int .i32 wdC.m0, .int .i32 wdC.m1, .int .i32 wdC.m2, .int .i64 wdC.w, .int .i64 wdC.p.f.k, .int .u8 wdC.p.f.i, .int .u8 wdC.p.f.r, .int .u8 wdC.p.f.g, .int .u8 wdC.p.f.b, .int .i64 wdC.p.b.k, .int .u8 wdC.p.b.i, .int .u8 wdC.p.b.r, .int .u8 wdC.p.b.g, .int .u8 wdC.p.b.b, .int .u8 wdC.p.fl]) rfl (by kernel_rfl) (by kernel_rfl) (by kernel_rfl) (fun _ _ _ h => h) (yieldsIf_load_mid (by rfl) 30 _ rfl b4 0 rfl (kcL wdC) _ (fun _ h => (And.left h).c4.range) Tryd.underlying30 rfl (by kernel_rfl)) (by assumption) ?_
      try simp only [Act.put, List.getElem_toArray, List.getElem_cons_succ, List.getElem_cons_zero, List.setIfInBounds_toArray, List.set_cons_zero, List.set_cons_succ]
      refine wpAnyH_take (i := 36) (v := ?_) rfl (by kernel_rfl) (by kernel_rfl) (by kernel_rfl) (fun _ _ _ h => h) (Or.inl ⟨by rfl, ?_⟩) (by assumption) ?_
      rotate_left
      · (intro wq hSw; (try dsimp only at hSw); go_simp; try with_reducible rfl)
      try simp only [Act.put, List.getElem_toArray, List.getElem_cons_succ, List.getElem_cons_zero, List.setIfInBounds_toArray, List.set_cons_zero, List.set_cons_succ]
      refine wpAnyH_ready (rs := [32, 37]) (by kernel_rfl) (by simp) ?_
      refine AllReadyH.cons rfl (fun K hK => ?_) (AllReadyH.cons rfl (fun K hK => ?_) AllReadyH.nil)
      · go_simp
        try go_wp2_with fail
        refine hK.out _ _ ?_ (fun hHeld => ?_)
        · (try dsimp only); (first | exact ⟨hHB.out.1.kept (hkY), hHB.out.2.kept (hkY) (by simp)⟩ | exact ⟨hHB.out.1.kept ((((Kept.refl [] X3).alloc _).alloc _)), hHB.out.2.kept ((((Kept.refl [] X3).alloc _).alloc _)) (by simp)⟩ | exact ⟨hHB.out.1.kept (((Kept.refl [] X3).alloc _)), hHB.out.2.kept (((Kept.refl [] X3).alloc _)) (by simp)⟩ | exact ⟨hHB.out.1.kept ((Kept.refl [] X3)), hHB.out.2.kept ((Kept.refl [] X3)) (by simp)⟩)
        clear hK K
        try simp only [Act.put, List.getElem_toArray, List.getElem_cons_succ, List.getElem_cons_zero, List.setIfInBounds_toArray, List.set_cons_zero, List.set_cons_succ]
        refine wpAnyH_ready (rs := [33, 37]) (by kernel_rfl) (by simp) ?_
        refine AllReadyH.cons rfl (fun K hK => ?_) (AllReadyH.cons rfl (fun K hK => ?_) AllReadyH.nil)
        · go_simp
          refine (list_any _ _ _ _).mono ?_
          rintro e w' ⟨rfl, rfl⟩
          try go_wp2_with fail
          refine hK.out _ _ ?_ (fun hHeld => ?_)
          · (try dsimp only); (first | exact ⟨hHB.out.1.kept (hkY), hHB.out.2.kept (hkY) (by simp)⟩ | exact ⟨hHB.out.1.kept ((((Kept.refl [] X3).alloc _).alloc _)), hHB.out.2.kept ((((Kept.refl [] X3).alloc _).alloc _)) (by simp)⟩ | exact ⟨hHB.out.1.kept (((Kept.refl [] X3).alloc _)), hHB.out.2.kept (((Kept.refl [] X3).alloc _)) (by simp)⟩ | exact ⟨hHB.out.1.kept ((Kept.refl [] X3)), hHB.out.2.kept ((Kept.refl [] X3)) (by simp)⟩)
          clear hK K
          try simp only [Act.put, List.getElem_toArray, List.getElem_cons_succ, List.getElem_cons_zero, List.setIfInBounds_toArray, List.set_cons_zero, List.set_cons_succ]
          refine wpAnyH_ready (rs := [37]) (by kernel_rfl) (by simp) ?_
          refine AllReadyH.cons rfl (fun K hK => ?_) AllReadyH.nil
          go_simp
          try go_wp2_with fail
          refine hK.out _ _ ?_ (fun hHeld => ?_)
          · (try dsimp only); (first | exact ⟨hHB.out.1.kept (hkY), hHB.out.2.kept (hkY) (by simp)⟩ | exact ⟨hHB.out.1.kept ((((Kept.refl [] X3).alloc _).alloc _)), hHB.out.2.kept ((((Kept.refl [] X3).alloc _).alloc _)) (by simp)⟩ | exact ⟨hHB.out.1.kept (((Kept.refl [] X3).alloc _)), hHB.out.2.kept (((Kept.refl [] X3).alloc _)) (by simp)⟩ | exact ⟨hHB.out.1.kept ((Kept.refl [] X3)), hHB.out.2.kept ((Kept.refl [] X3)) (by simp)⟩)
          clear hK K
          try simp only [Act.put, List.getElem_toArray, List.getElem_cons_succ, List.getElem_cons_zero, List.setIfInBounds_toArray, List.set_cons_zero, List.set_cons_succ]
          refine wpAnyH_ready (rs := [38]) (by kernel_rfl) (by simp) ?_
          refine AllReadyH.cons rfl (fun K hK => ?_) AllReadyH.nil
          go_simp
          refine (fixes_any _ 3 _ [wdC, wdC, zeroK] _ 3 _ [blankC zeroP, wdC, zeroK] true fix_4 _ (Rd.kept (w := X3.alloc _) (Rd.blockC (heap_alloc_new X3 _) (by rfl)) (((Kept.refl [] _).alloc _)) (by simp)) (Rd.kept (w := (X3.alloc _).alloc _) (Rd.blockC (heap_new_at (by simp)) (by rfl)) ((Kept.refl [] _)) (by simp)) (by omega)).mono ?_
          rintro e Y ⟨rfl, hjY⟩
          have hkY : Kept [] X3 Y := ((((Kept.refl [] X3).alloc _).alloc _)).trans hjY (by simp)
          try go_wp2_with fail
          refine hK.out _ _ ?_ (fun hHeld => ?_)
          · (try dsimp only); (first | exact ⟨hHB.out.1.kept (hkY), hHB.out.2.kept (hkY) (by simp)⟩ | exact ⟨hHB.out.1.kept ((((Kept.refl [] X3).alloc _).alloc _)), hHB.out.2.kept ((((Kept.refl [] X3).alloc _).alloc _)) (by simp)⟩ | exact ⟨hHB.out.1.kept (((Kept.refl [] X3).alloc _)), hHB.out.2.kept (((Kept.refl [] X3).alloc _)) (by simp)⟩ | exact ⟨hHB.out.1.kept ((Kept.refl [] X3)), hHB.out.2.kept ((Kept.refl [] X3)) (by simp)⟩)
          clear hK K
          try simp only [Act.put, List.getElem_toArray, List.getElem_cons_succ, List.getElem_cons_zero, List.setIfInBounds_toArray, List.set_cons_zero, List.set_cons_succ]
          generalize (Value.slice (some ⟨X3.heap.size, 0, none⟩) 3 3) = v1
          generalize (Value.slice (some ⟨X3.heap.size + 1, 0, none⟩) 3 3) = v2
          exact H v1 v2 Y ⟨hHeld, hKB.out.trans hkY (by simp)⟩
        · go_simp
          try go_wp2_with fail
          refine hK.out _ _ ?_ (fun hHeld => ?_)
          · (try dsimp only); (first | exact ⟨hHB.out.1.kept (hkY), hHB.out.2.kept (hkY) (by simp)⟩ | exact ⟨hHB.out.1.kept ((((Kept.refl [] X3).alloc _).alloc _)), hHB.out.2.kept ((((Kept.refl [] X3).alloc _).alloc _)) (by simp)⟩ | exact ⟨hHB.out.1.kept (((Kept.refl [] X3).alloc _)), hHB.out.2.kept (((Kept.refl [] X3).alloc _)) (by simp)⟩ | exact ⟨hHB.out.1.kept ((Kept.refl [] X3)), hHB.out.2.kept ((Kept.refl [] X3)) (by simp)⟩)
          clear hK K
          try simp only [Act.put, List.getElem_toArray, List.getElem_cons_succ, List.getElem_cons_zero, List.setIfInBounds_toArray, List.set_cons_zero, List.set_cons_succ]
          refine wpAnyH_ready (rs := [33]) (by kernel_rfl) (by simp) ?_
          refine AllReadyH.cons rfl (fun K hK => ?_) AllReadyH.nil
          go_simp
          refine (list_any _ _ _ _).mono ?_
          rintro e w' ⟨rfl, rfl⟩
          try go_wp2_with fail
          refine hK.out _ _ ?_ (fun hHeld => ?_)
          · (try dsimp only); (first | exact ⟨hHB.out.1.kept (hkY), hHB.out.2.kept (hkY) (by simp)⟩ | exact ⟨hHB.out.1.kept ((((Kept.refl [] X3).alloc _).alloc _)), hHB.out.2.kept ((((Kept.refl [] X3).alloc _).alloc _)) (by simp)⟩ | exact ⟨hHB.out.1.kept (((Kept.refl [] X3).alloc _)), hHB.out.2.kept (((Kept.refl [] X3).alloc _)) (by simp)⟩ | exact ⟨hHB.out.1.kept ((Kept.refl [] X3)), hHB.out.2.kept ((Kept.refl [] X3)) (by simp)⟩)
          clear hK K
          try simp only [Act.put, List.getElem_toArray, List.getElem_cons_succ, List.getElem_cons_zero, List.setIfInBounds_toArray, List.set_cons_zero, List.set_cons_succ]
          refine wpAnyH_ready (rs := [38]) (by kernel_rfl) (by simp) ?_
          refine AllReadyH.cons rfl (fun K hK => ?_) AllReadyH.nil
          go_simp
          refine (fixes_any _ 3 _ [wdC, wdC, zeroK] _ 3 _ [blankC zeroP, wdC, zeroK] true fix_4 _ (Rd.kept (w := X3.alloc _) (Rd.blockC (heap_alloc_new X3 _) (by rfl)) (((Kept.refl [] _).alloc _)) (by simp)) (Rd.kept (w := (X3.alloc _).alloc _) (Rd.blockC (heap_new_at (by simp)) (by rfl)) ((Kept.refl [] _)) (by simp)) (by omega)).mono ?_
          rintro e Y ⟨rfl, hjY⟩
          have hkY : Kept [] X3 Y := ((((Kept.refl [] X3).alloc _).alloc _)).trans hjY (by simp)
          try go_wp2_with fail
          refine hK.out _ _ ?_ (fun hHeld => ?_)
          · (try dsimp only); (first | exact ⟨hHB.out.1.kept (hkY), hHB.out.2.kept (hkY) (by simp)⟩ | exact ⟨hHB.out.1.kept ((((Kept.refl [] X3).alloc _).alloc _)), hHB.out.2.kept ((((Kept.refl [] X3).alloc _).alloc _)) (by simp)⟩ | exact ⟨hHB.out.1.kept (((Kept.refl [] X3).alloc _)), hHB.out.2.kept (((Kept.refl [] X3).alloc _)) (by simp)⟩ | exact ⟨hHB.out.1.kept ((Kept.refl [] X3)), hHB.out.2.kept ((Kept.refl [] X3)) (by simp)⟩)
          clear hK K
          try simp only [Act.put, List.getElem_toArray, List.getElem_cons_succ, List.getElem_cons_zero, List.setIfInBounds_toArray, List.set_cons_zero, List.set_cons_succ]
          generalize (Value.slice (some ⟨X3.heap.size, 0, none⟩) 3 3) = v1
          generalize (Value.slice (some ⟨X3.heap.size + 1, 0, none⟩) 3 3) = v2
          exact H v1 v2 Y ⟨hHeld, hKB.out.trans hkY (by simp)⟩
      · go_simp
        try go_wp2_with fail
        refine hK.out _ _ ?_ (fun hHeld => ?_)
        · (try dsimp only); (first | exact ⟨hHB.out.1.kept (hkY), hHB.out.2.kept (hkY) (by simp)⟩ | exact ⟨hHB.out.1.kept ((((Kept.refl [] X3).alloc _).alloc _)), hHB.out.2.kept ((((Kept.refl [] X3).alloc _).alloc _)) (by simp)⟩ | exact ⟨hHB.out.1.kept (((Kept.refl [] X3).alloc _)), hHB.out.2.kept (((Kept.refl [] X3).alloc _)) (by simp)⟩ | exact ⟨hHB.out.1.kept ((Kept.refl [] X3)), hHB.out.2.kept ((Kept.refl [] X3)) (by simp)⟩)
        clear hK K
        try simp only [Act.put, List.getElem_toArray, List.getElem_cons_succ, List.getElem_cons_zero, List.setIfInBounds_toArray, List.set_cons_zero, List.set_cons_succ]
        refine wpAnyH_ready (rs := [32]) (by kernel_rfl) (by simp) ?_
        refine AllReadyH.cons rfl (fun K hK => ?_) AllReadyH.nil
        go_simp
        try go_wp2_with fail
        refine hK.out _ _ ?_ (fun hHeld => ?_)
        · (try dsimp only); (first | exact ⟨hHB.out.1.kept (hkY), hHB.out.2.kept (hkY) (by simp)⟩ | exact ⟨hHB.out.1.kept ((((Kept.refl [] X3).alloc _).alloc _)), hHB.out.2.kept ((((Kept.refl [] X3).alloc _).alloc _)) (by simp)⟩ | exact ⟨hHB.out.1.kept (((Kept.refl [] X3).alloc _)), hHB.out.2.kept (((Kept.refl [] X3).alloc _)) (by simp)⟩ | exact ⟨hHB.out.1.kept ((Kept.refl [] X3)), hHB.out.2.kept ((Kept.refl [] X3)) (by simp)⟩)
        clear hK K
        try simp only [Act.put, List.getElem_toArray, List.getElem_cons_succ, List.getElem_cons_zero, List.setIfInBounds_toArray, List.set_cons_zero, List.set_cons_succ]
        refine wpAnyH_ready (rs := [33]) (by kernel_rfl) (by simp) ?_
        refine AllReadyH.cons rfl (fun K hK => ?_) AllReadyH.nil
        go_simp
        refine (list_any _ _ _ _).mono ?_
        rintro e w' ⟨rfl, rfl⟩
        try go_wp2_with fail
        refine hK.out _ _ ?_ (fun hHeld => ?_)
        · (try dsimp only); (first | exact ⟨hHB.out.1.kept (hkY), hHB.out.2.kept (hkY) (by simp)⟩ | exact ⟨hHB.out.1.kept ((((Kept.refl [] X3).alloc _).alloc _)), hHB.out.2.kept ((((Kept.refl [] X3).alloc _).alloc _)) (by simp)⟩ | exact ⟨hHB.out.1.kept (((Kept.refl [] X3).alloc _)), hHB.out.2.kept (((Kept.refl [] X3).alloc _)) (by simp)⟩ | exact ⟨hHB.out.1.kept ((Kept.refl [] X3)), hHB.out.2.kept ((Kept.refl [] X3)) (by simp)⟩)
        clear hK K
        try simp only [Act.put, List.getElem_toArray, List.getElem_cons_succ, List.getElem_cons_zero, List.setIfInBounds_toArray, List.set_cons_zero, List.set_cons_succ]
        refine wpAnyH_ready (rs := [38]) (by kernel_rfl) (by simp) ?_
        refine AllReadyH.cons rfl (fun K hK => ?_) AllReadyH.nil
        go_simp
        refine (fixes_any _ 3 _ [wdC, wdC, zeroK] _ 3 _ [blankC zeroP, wdC, zeroK] true fix_4 _ (Rd.kept (w := (X3.alloc _).alloc _) (Rd.blockC (heap_new_at (by simp)) (by rfl)) ((Kept.refl [] _)) (by simp)) (Rd.kept (w := X3.alloc _) (Rd.blockC (heap_alloc_new X3 _) (by rfl)) (((Kept.refl [] _).alloc _)) (by simp)) (by omega)).mono ?_
        rintro e Y ⟨rfl, hjY⟩
        have hkY : Kept [] X3 Y := ((((Kept.refl [] X3).alloc _).alloc _)).trans hjY (by simp)
        try go_wp2_with fail
        refine hK.out _ _ ?_ (fun hHeld => ?_)
        · (try dsimp only); (first | exact ⟨hHB.out.1.kept (hkY), hHB.out.2.kept (hkY) (by simp)⟩ | exact ⟨hHB.out.1.kept ((((Kept.refl [] X3).alloc _).alloc _)), hHB.out.2.kept ((((Kept.refl [] X3).alloc _).alloc _)) (by simp)⟩ | exact ⟨hHB.out.1.kept (((Kept.refl [] X3).alloc _)), hHB.out.2.kept (((Kept.refl [] X3).alloc _)) (by simp)⟩ | exact ⟨hHB.out.1.kept ((Kept.refl [] X3)), hHB.out.2.kept ((Kept.refl [] X3)) (by simp)⟩)
        clear hK K
        try simp only [Act.put, List.getElem_toArray, List.getElem_cons_succ, List.getElem_cons_zero, List.setIfInBounds_toArray, List.set_cons_zero, List.set_cons_succ]
        generalize (Value.slice (some ⟨X3.heap.size + 1, 0, none⟩) 3 3) = v1
        generalize (Value.slice (some ⟨X3.heap.size, 0, none⟩) 3 3) = v2
        exact H v1 v2 Y ⟨hHeld, hKB.out.trans hkY (by simp)⟩
    case' h3 => intro w1 w2 X4 hF
    have hHeld := hF.1
    have hHB := hide hF.1
    have hKB := hide hF.2
    clear hF
    refine wpAnyH_take (i := 39) (v := ?_) rfl (by kernel_rfl) (by kernel_rfl) (by kernel_rfl) (fun _ _ _ h => h) (Or.inl ⟨by rfl, ?_⟩) (by assumption) ?_
    rotate_left
    · (intro wq hSw; (try dsimp only at hSw); go_simp; try with_reducible rfl)
    try simp only [Act.put, List.getElem_toArray, List.getElem_cons_succ, List.getElem_cons_zero, List.setIfInBounds_toArray, List.set_cons_zero, List.set_cons_succ]
    refine wpAnyH_take (i := 40) (v := ?_) rfl (by kernel_rfl) (by kernel_rfl) (by kernel_rfl) (fun _ _ _ h => h) (Or.inl ⟨by rfl, ?_⟩) (by assumption) ?_
    rotate_left
    · (intro wq hSw; (try dsimp only at hSw); go_simp; try with_reducible rfl)
    try simp only [Act.put, List.getElem_toArray, List.getElem_cons_succ, List.getElem_cons_zero, List.setIfInBounds_toArray, List.set_cons_zero, List.set_cons_succ]
    refine wpAnyH_done (by kernel_rfl) ?_ _
    go_wp2_with fail
    go_ret
    exact ⟨rfl, hKB.out⟩
end Go.Proofs.YtigaijigdellpaaDoor
