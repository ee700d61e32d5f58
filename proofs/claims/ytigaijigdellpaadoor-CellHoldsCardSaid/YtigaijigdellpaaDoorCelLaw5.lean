/- The walk of CellHolds. -/
import Derived.Test.YtigaijigdellpaaDoorCelLaw4
import Derived.Test.YtigaijigdellpaaDoorCelHm
import Derived.Test.YtigaijigdellpaaDoorCelKo
namespace Go.Proofs.YtigaijigdellpaaDoor
open Go.RowKit
set_option linter.unusedVariables false
set_option linter.unusedSimpArgs false

theorem wpList_appW {w : World} {ops : Array Oper} {rest : List Oper} {o : Oper} {A : Act} {Q : Exit → Act → World → Prop} {s x : Operand} {base : Nat} {t e : TypeId} {z : Value} {size bytes : Nat}
    {a : Option Addr} {n c : Nat} {xs : List Value} {b : Option Addr} {m d : Nat} {ys : List Value}
    (h : ∀ a' c' w', Own w' base e a' (n + m) c' size (xs ++ ys) → Kept (blk a) w w' → (∀ g ∈ blk a', g ∈ blk a ∨ w.heap.size ≤ g) → wpList Tryd.prog ops Q rest (A.put o.dst (.slice a' (n + m) c')) w')
    (hw : Region.wanted o (yielded ops A.tmps) = true) (T : ElemT Tryd.prog t e z size bytes) (ho : o.op = .call { callee := .builtin .append, args := #[s, x], argTypes := #[t, t] })
    (hs : A.eval s = .slice a n c) (hown : Own w base e a n c size xs) (hx : A.eval x = .slice b m d) (hr : Rd w b m size ys) (h1 : ∀ u ∈ ys, u.oneCell' = true)
    (hbytes : (n + m) * bytes ≤ 140737488355328) (hbase : base ≤ w.heap.size) : wpList Tryd.prog ops Q (o :: rest) A w :=
  BigFrame.wpList_want hw fun _ hK => wp_app (fun a' c' w' h2 h3 h4 => hK _ _ (h a' c' w' h2 h3 h4)) T ho hs hown hx hr h1 hbytes hbase

theorem CellHolds_long (KN : KnownIs) (a : Option Addr) (n cp : Nat) (b : Option Addr) (n2 cp2 : Nat) (r m : Int) (p : Pn) (hn : 30 < n ∨ 30 < n2) (w : World) (ht : Tabs w) : Calls Tryd.prog 7 #[.slice a n cp, .slice b n2 cp2, .int .i32 r, .int .i32 m, .agg #[.int .i64 p.f.k, .int .u8 p.f.i, .int .u8 p.f.r, .int .u8 p.f.g, .int .u8 p.f.b, .int .i64 p.b.k, .int .u8 p.b.i, .int .u8 p.b.r, .int .u8 p.b.g, .int .u8 p.b.b, .int .u8 p.fl]] w fun e w' => e = .returned (.bool true) ∧ Kept [] w w' := by
  have hk0 : Kept [] w (w.alloc (.cells #[.int .i64 p.f.k, .int .u8 p.f.i, .int .u8 p.f.r, .int .u8 p.f.g, .int .u8 p.f.b, .int .i64 p.b.k, .int .u8 p.b.i, .int .u8 p.b.r, .int .u8 p.b.g, .int .u8 p.b.b, .int .u8 p.fl] 27)) := (Kept.refl [] w).alloc _
  have hKN := hide (KN _ (ht.kept hk0))
  by_cases h1 : 30 < n
  · have hnz : (30 : Int) < (n : Int) := by omega
    go_enter Tryd.func7, Tryd.ntmps7
    go_wp2_with fail
    refine hKN.out.mono ?_
    rintro e w1 ⟨rfl, hk1⟩
    go_wp2_with fail
    go_ret
    exact ⟨rfl, hk0.trans hk1 (by simp)⟩
  · have hnz : (n : Int) ≤ 30 := by omega
    have hnz2 : (30 : Int) < (n2 : Int) := by omega
    go_enter Tryd.func7, Tryd.ntmps7
    go_wp2_with fail
    refine hKN.out.mono ?_
    rintro e w1 ⟨rfl, hk1⟩
    go_wp2_with fail
    go_ret
    exact ⟨rfl, hk0.trans hk1 (by simp)⟩

set_option maxRecDepth 100000 in
set_option maxHeartbeats 20000000 in
theorem CellHolds_walk (KN : KnownIs) (a : Option Addr) (n cp : Nat) (la : List Cl) (b : Option Addr) (n2 cp2 : Nat) (lb : List Cl) (r m : Int) (p : Pn) (hn : n ≤ 30) (hn2 : n2 ≤ 30) (w : World) (ht : Tabs w) (hra : Rd w a n 16 (cellsV la)) (hrb : Rd w b n2 16 (cellsV lb)) : Calls Tryd.prog 7 #[.slice a n cp, .slice b n2 cp2, .int .i32 r, .int .i32 m, .agg #[.int .i64 p.f.k, .int .u8 p.f.i, .int .u8 p.f.r, .int .u8 p.f.g, .int .u8 p.f.b, .int .i64 p.b.k, .int .u8 p.b.i, .int .u8 p.b.r, .int .u8 p.b.g, .int .u8 p.b.b, .int .u8 p.fl]] w fun e w' => e = .returned (.bool true) ∧ Kept [] w w' := by
  obtain ⟨W0, hW0⟩ : ∃ z : World, z = w.alloc (.cells #[.int .i64 p.f.k, .int .u8 p.f.i, .int .u8 p.f.r, .int .u8 p.f.g, .int .u8 p.f.b, .int .i64 p.b.k, .int .u8 p.b.i, .int .u8 p.b.r, .int .u8 p.b.g, .int .u8 p.b.b, .int .u8 p.fl] 27) := ⟨_, rfl⟩
  have hk0 : Kept [] w W0 := by rw [hW0]; exact (Kept.refl [] w).alloc _
  have hp0 : PenIn W0 w.heap.size p := by rw [hW0]; exact PenIn.new w p
  have hT := hide (fun w1 (hk : Kept [] w w1) => ht.kept hk)
  have hKN := hide KN
  have hA := hide hra
  have hB := hide hrb
  have hla := hide hra.clen
  clear KN ht hra hrb
  have hOf := hide (Of4_any r p W0 (hT.out _ hk0))
  have hOK : Hid ((ofE r p).2 = 0 → rowI (ofE r p).1 = true ∧ ∃ c t, (ofE r p).1 = c :: t ∧ validC c = true ∧ c.r ≠ 0 ∧ cntI c.m0 c.m1 c.m2 = 0) := hide fun h => by
    obtain ⟨h1, t, h2, h3⟩ := ofE_row h
    exact ⟨h1, _, t, h2, h3, (ofC_start r p h3).1, (ofC_start r p h3).2⟩
  have hlen : Hid ((ofE r p).1.length ≤ 2) := hide (by unfold ofE; split; split <;> simp; simp)
  generalize ofE r p = E at *
  obtain ⟨L, x⟩ := E
  have hnz : (n : Int) ≤ 30 := by omega
  have hnz2 : (n2 : Int) ≤ 30 := by omega
  have rp := hp0.range
  go_enter Tryd.func7, Tryd.ntmps7
  go_upto_region 1 with fail
  rw [← hW0]
  clear hW0
  go_upto_region 3 with fail
  go_wp2_with (refine wpList_load_pen rfl rfl w.heap.size 0 rfl rp ?_)
  refine hOf.out.mono ?_
  rintro e w1 ⟨al, nl, cl, rfl, hrl, _, hk1'⟩
  have hk1 := hide (hk0.trans hk1' (by simp))
  have hnl : nl ≤ 2 := by have := hrl.clen; have := hlen.out; omega
  clear rp hp0 hOf hlen hk1'
  by_cases hx0 : x = 0
  · have ex : (x == 0) = true := by simpa using hx0
    obtain ⟨hrow, c0, t0, hLL, hv0, hr0, hc0⟩ := hOK.out hx0
    have hLL := hide hLL
    have hI0 := hide (And.intro hv0 (And.intro hr0 hc0))
    have hrow := hide hrow
    have hnl1 : 0 < nl := by have := hrl.clen; have h := hLL.out; rw [h] at this; simp at this; omega
    have hnl1z : (0 : Int) < (nl : Int) := by omega
    have hnlz : decide ((nl : Int) < 1) = false := decide_eq_false (by omega)
    have hRW := hide (row_ask L true hrow.out al nl cl w1 (hT.out _ hk1.out) hrl (by omega))
    obtain ⟨g, o, rfl⟩ := hrl.addr (fun h => by have := hrl.clen; rw [h] at this; simp at this; omega)
    have hc0r : Hid (CelR w1 g o c0) := hide (by
      have h := hrl.celAt (i := 0) (x := c0) (by have h := hLL.out; rw [h]; rfl)
      simpa using h)
    clear hx0 hOK hv0 hr0 hc0 hrl
    go_wp2_with fail
    refine hRW.out.mono ?_
    rintro e w2 ⟨rfl, j2⟩
    have k2 := hide (hk1.out.trans j2 (by simp))
    have r2 := hc0r.out.kept j2 (by simp)
    have hz2 : CelIn (w2.alloc (.cells #[.int .i32 0, .int .i32 0, .int .i32 0, .int .i32 0, .int .i64 0, .int .i64 0, .int .u8 0, .int .u8 0, .int .u8 0, .int .u8 0, .int .i64 0, .int .u8 0, .int .u8 0, .int .u8 0, .int .u8 0, .int .u8 0] 30)) w2.heap.size zeroK := heap_alloc_new w2 _
    go_upto_region 7 with fail
    go_upto_region 8 with (first | refine wpList_load_cel rfl rfl g o rfl r2 ?_ | (refine wpList_store_cel rfl rfl rfl w2.heap.size rfl hz2 c0 rfl ?_; intro w3 hc3 j3))
    have k3 : Kept [] w2 w3 := ((Kept.refl [] w2).alloc _).trans j3 (by intro z hz; simp at hz; omega)
    have k3 := k2.out.trans k3 (by simp)
    have hsz2 := hide (k2.out.size)
    clear j2 j3 r2 hz2 hk1 k2 hRW
    go_upto_region 9 with fail
    go_loopg [14, 15, 16, 54, 55, 56, 57, 58, 59, 60, 61, 62, 63, 64, 65, 66, 67, 68, 69, 70, 71, 72, 73, 74, 75, 76, 77, 78, 79, 80, 81, 82] 5 (fun kx s14 s15 s16 s54 s55 s56 s57 s58 s59 s60 s61 s62 s63 s64 s65 s66 s67 s68 s69 s70 s71 s72 s73 s74 s75 s76 s77 s78 s79 s80 s81 s82 wr => ∃ (i : Nat) (y : Cl), s14 = .int .i64 i ∧ i ≤ 3 ∧ 5 - i ≤ kx ∧ CelIn wr w2.heap.size y ∧ Hid (validC y = true ∧ y.r ≠ 0 ∧ cntI y.m0 y.m1 y.m2 = i) ∧ Kept [] w wr)
    case atStart => exact ⟨0, c0, rfl, by omega, by omega, hc3, hI0, k3⟩
    case round =>
      obtain ⟨i, y, rfl, hi, hg, hy, hI, hkr⟩ := hrel
      have hi5 : (i : Int) < 5 := by omega
      have hMk := hide (Mark_any y m wr (hT.out _ hkr))
      have hok := hide (fun h => mark_ok (c := y) (x := m) hI.out.1 hI.out.2.1 h)
      have hVz := hide (fun w1 hk => cvalid_any (markE y m).1 w1 (hT.out w1 hk))
      have hTz := hide (fun w1 => Text_any (markE y m).1 w1)
      have hTy := hide (fun w1 => Text_any y w1)
      generalize markE y m = E at *
      obtain ⟨z, no⟩ := E
      simp only at hok hVz hTz
      have ry := hy.range
      go_wp2_with (refine wpList_load_cel rfl rfl w2.heap.size 0 rfl ry ?_)
      refine hMk.out.mono ?_
      rintro e w4 ⟨rfl, j4⟩
      have hz4 : CelIn (w4.alloc (.cells #[.int .i32 0, .int .i32 0, .int .i32 0, .int .i32 0, .int .i64 0, .int .i64 0, .int .u8 0, .int .u8 0, .int .u8 0, .int .u8 0, .int .i64 0, .int .u8 0, .int .u8 0, .int .u8 0, .int .u8 0, .int .u8 0] 30)) w4.heap.size zeroK := heap_alloc_new w4 _
      go_upto_region 12 with (refine wpList_store_cel rfl rfl rfl w4.heap.size rfl hz4 z rfl ?_; intro w5 hzz5 j5)
      have q5 : Kept [] w4 w5 := ((Kept.refl [] w4).alloc _).trans j5 (by intro u hu; simp at hu; omega)
      have k5 := hide ((hkr.trans j4 (by simp)).trans q5 (by simp))
      have hy5 := hide ((hy.kept j4 (by simp)).kept q5 (by simp))
      have hz5 := hide hzz5
      clear ry hz4 j4 j5 q5 hkr hy hzz5 hMk
      by_cases hno0 : no = 0
      · have eno : (no != 0) = false := by simpa using hno0
        obtain ⟨m1, m2, m3, m4, m5⟩ := hok.out hno0
        have hI2 := hide (And.intro m1 (And.intro m2 m4))
        have hvz : validC z = true := m1
        rw [hvz] at hVz
        have hgi : decide ((3 : Int) ≤ (i : Int)) = false := decide_eq_false (by have := hI.out.2.2; omega)
        have hi3 : i < 3 := by have := hI.out.2.2; omega
        have hle : decide ((textC z).size ≤ (textC y).size) = false := decide_eq_false (by omega)
        clear hno0 m1 m2 m3 m4 m5 hok hvz
        generalize textC z = tz at *
        generalize textC y = ty at *
        go_upto_region 13 with fail
        refine wp_region_held_drew (S := (fun w' => CelIn w' w4.heap.size z ∧ CelIn w' w2.heap.size y)) (by kernel_rfl) ?_ (fun hHeld => ?_)
        · (try dsimp only); (first | exact ⟨hz5.out.kept k8 (by simp), hy5.out.kept k8 (by simp)⟩ | exact ⟨hz5.out.kept k7 (by simp), hy5.out.kept k7 (by simp)⟩ | exact ⟨hz5.out.kept k6 (by simp), hy5.out.kept k6 (by simp)⟩ | exact ⟨hz5.out.kept (Kept.refl [] w5).drew (by simp), hy5.out.kept (Kept.refl [] w5).drew (by simp)⟩)
        refine wpAnyH_take (i := 0) (v := (.agg #[.int .i32 z.r, .int .i32 z.m0, .int .i32 z.m1, .int .i32 z.m2, .int .i64 z.w, .int .i64 z.p.f.k, .int .u8 z.p.f.i, .int .u8 z.p.f.r, .int .u8 z.p.f.g, .int .u8 z.p.f.b, .int .i64 z.p.b.k, .int .u8 z.p.b.i, .int .u8 z.p.b.r, .int .u8 z.p.b.g, .int .u8 z.p.b.b, .int .u8 z.p.fl])) rfl (by kernel_rfl) (by kernel_rfl) (by kernel_rfl) (fun _ _ _ h => h) (yieldsIf_load_mid (by rfl) 30 _ rfl w4.heap.size 0 rfl (kcL z) _ (fun _ h => (And.left h).range) Tryd.underlying30 rfl (by kernel_rfl)) (by assumption) ?_
        try simp only [Act.put, List.getElem_toArray, List.getElem_cons_zero, List.setIfInBounds_toArray, List.set_cons_zero, List.set_cons_succ]
        refine wpAnyH_ready (rs := [1]) (by kernel_rfl) (by simp) ?_
        refine AllReadyH.cons rfl (fun K hK => ?_) AllReadyH.nil
        go_simp
        refine (hVz.out _ k5.out.drew).mono ?_; rintro e w6 ⟨rfl, j6⟩; have k6 : Kept [] w5 w6 := (Kept.refl [] w5).drew.trans j6 (by simp)
        try go_wp2_with fail
        refine hK.out _ _ ?_ (fun hHeld => ?_)
        · (try dsimp only); (first | exact ⟨hz5.out.kept k8 (by simp), hy5.out.kept k8 (by simp)⟩ | exact ⟨hz5.out.kept k7 (by simp), hy5.out.kept k7 (by simp)⟩ | exact ⟨hz5.out.kept k6 (by simp), hy5.out.kept k6 (by simp)⟩ | exact ⟨hz5.out.kept (Kept.refl [] w5).drew (by simp), hy5.out.kept (Kept.refl [] w5).drew (by simp)⟩)
        clear hK K
        try simp only [Act.put, List.getElem_toArray, List.getElem_cons_succ, List.getElem_cons_zero, List.setIfInBounds_toArray, List.set_cons_zero, List.set_cons_succ]
        refine wpAnyH_take (i := 2) (v := ?_) rfl (by kernel_rfl) (by kernel_rfl) (by kernel_rfl) (fun _ _ _ h => h) (Or.inl ⟨by rfl, ?_⟩) (by assumption) ?_
        rotate_left
        · (intro wq hSw; (try dsimp only at hSw); go_simp; try with_reducible rfl)
        try simp only [Act.put, List.getElem_toArray, List.getElem_cons_succ, List.getElem_cons_zero, List.setIfInBounds_toArray, List.set_cons_zero, List.set_cons_succ]
        refine wpAnyH_take (i := 3) (v := ?_) rfl (by kernel_rfl) (by kernel_rfl) (by kernel_rfl) (fun _ _ _ h => h) (Or.inl ⟨by rfl, ?_⟩) (by assumption) ?_
        rotate_left
        · (intro wq hSw; (try dsimp only at hSw); go_simp; try with_reducible rfl)
        try simp only [Act.put, List.getElem_toArray, List.getElem_cons_succ, List.getElem_cons_zero, List.setIfInBounds_toArray, List.set_cons_zero, List.set_cons_succ]
        refine wpAnyH_take (i := 4) (v := ?_) rfl (by kernel_rfl) (by kernel_rfl) (by kernel_rfl) (fun _ _ _ h => h) (Or.inl ⟨by rfl, ?_⟩) (by assumption) ?_
        rotate_left
        · (intro wq hSw; (try dsimp only at hSw); go_simp; try with_reducible rfl)
        try simp only [Act.put, List.getElem_toArray, List.getElem_cons_succ, List.getElem_cons_zero, List.setIfInBounds_toArray, List.set_cons_zero, List.set_cons_succ]
        refine wpAnyH_take (i := 5) (v := ?_) rfl (by kernel_rfl) (by kernel_rfl) (by kernel_rfl) (fun _ _ _ h => h) (Or.inl ⟨by rfl, ?_⟩) (by assumption) ?_
        rotate_left
        · (intro wq hSw; (try dsimp only at hSw); go_simp; try with_reducible rfl)
        try simp only [Act.put, List.getElem_toArray, List.getElem_cons_succ, List.getElem_cons_zero, List.setIfInBounds_toArray, List.set_cons_zero, List.set_cons_succ]
        refine wpAnyH_take (i := 6) (v := ?_) rfl (by kernel_rfl) (by kernel_rfl) (by kernel_rfl) (fun _ _ _ h => h) (Or.inl ⟨by rfl, ?_⟩) (by assumption) ?_
        rotate_left
        · (intro wq hSw; (try dsimp only at hSw); go_simp; try with_reducible rfl)
        try simp only [Act.put, List.getElem_toArray, List.getElem_cons_succ, List.getElem_cons_zero, List.setIfInBounds_toArray, List.set_cons_zero, List.set_cons_succ]
        refine wpAnyH_take (i := 7) (v := ?_) rfl (by kernel_rfl) (by kernel_rfl) (by kernel_rfl) (fun _ _ _ h => h) (Or.inl ⟨by rfl, ?_⟩) (by assumption) ?_
        rotate_left
        · (intro wq hSw; (try dsimp only at hSw); go_simp; try with_reducible rfl)
        try simp only [Act.put, List.getElem_toArray, List.getElem_cons_succ, List.getElem_cons_zero, List.setIfInBounds_toArray, List.set_cons_zero, List.set_cons_succ]
        refine wpAnyH_take (i := 8) (v := (.agg #[.int .i32 z.r, .int .i32 z.m0, .int .i32 z.m1, .int .i32 z.m2, .int .i64 z.w, .int .i64 z.p.f.k, .int .u8 z.p.f.i, .int .u8 z.p.f.r, .int .u8 z.p.f.g, .int .u8 z.p.f.b, .int .i64 z.p.b.k, .int .u8 z.p.b.i, .int .u8 z.p.b.r, .int .u8 z.p.b.g, .int .u8 z.p.b.b, .int .u8 z.p.fl])) rfl (by kernel_rfl) (by kernel_rfl) (by kernel_rfl) (fun _ _ _ h => h) (yieldsIf_load_mid (by rfl) 30 _ rfl w4.heap.size 0 rfl (kcL z) _ (fun _ h => (And.left h).range) Tryd.underlying30 rfl (by kernel_rfl)) (by assumption) ?_
        try simp only [Act.put, List.getElem_toArray, List.getElem_cons_succ, List.getElem_cons_zero, List.setIfInBounds_toArray, List.set_cons_zero, List.set_cons_succ]
        refine wpAnyH_take (i := 11) (v := (.agg #[.int .i32 y.r, .int .i32 y.m0, .int .i32 y.m1, .int .i32 y.m2, .int .i64 y.w, .int .i64 y.p.f.k, .int .u8 y.p.f.i, .int .u8 y.p.f.r, .int .u8 y.p.f.g, .int .u8 y.p.f.b, .int .i64 y.p.b.k, .int .u8 y.p.b.i, .int .u8 y.p.b.r, .int .u8 y.p.b.g, .int .u8 y.p.b.b, .int .u8 y.p.fl])) rfl (by kernel_rfl) (by kernel_rfl) (by kernel_rfl) (fun _ _ _ h => h) (yieldsIf_load_mid (by rfl) 30 _ rfl w2.heap.size 0 rfl (kcL y) _ (fun _ h => (And.right h).range) Tryd.underlying30 rfl (by kernel_rfl)) (by assumption) ?_
        try simp only [Act.put, List.getElem_toArray, List.getElem_cons_succ, List.getElem_cons_zero, List.setIfInBounds_toArray, List.set_cons_zero, List.set_cons_succ]
        refine wpAnyH_ready (rs := [9]) (by kernel_rfl) (by simp) ?_
        refine AllReadyH.cons rfl (fun K hK => ?_) AllReadyH.nil
        go_simp
        refine (hTz.out w6).mono ?_; rintro e w7 ⟨rfl, j7⟩; have k7 : Kept [] w5 w7 := k6.trans j7 (by simp)
        try go_wp2_with fail
        refine hK.out _ _ ?_ (fun hHeld => ?_)
        · (try dsimp only); (first | exact ⟨hz5.out.kept k8 (by simp), hy5.out.kept k8 (by simp)⟩ | exact ⟨hz5.out.kept k7 (by simp), hy5.out.kept k7 (by simp)⟩ | exact ⟨hz5.out.kept k6 (by simp), hy5.out.kept k6 (by simp)⟩ | exact ⟨hz5.out.kept (Kept.refl [] w5).drew (by simp), hy5.out.kept (Kept.refl [] w5).drew (by simp)⟩)
        clear hK K
        try simp only [Act.put, List.getElem_toArray, List.getElem_cons_succ, List.getElem_cons_zero, List.setIfInBounds_toArray, List.set_cons_zero, List.set_cons_succ]
        refine wpAnyH_take (i := 10) (v := ?_) rfl (by kernel_rfl) (by kernel_rfl) (by kernel_rfl) (fun _ _ _ h => h) (Or.inl ⟨by rfl, ?_⟩) (by assumption) ?_
        rotate_left
        · (intro wq hSw; (try dsimp only at hSw); go_simp; try with_reducible rfl)
        try simp only [Act.put, List.getElem_toArray, List.getElem_cons_succ, List.getElem_cons_zero, List.setIfInBounds_toArray, List.set_cons_zero, List.set_cons_succ]
        refine wpAnyH_ready (rs := [12]) (by kernel_rfl) (by simp) ?_
        refine AllReadyH.cons rfl (fun K hK => ?_) AllReadyH.nil
        go_simp
        refine (hTy.out w7).mono ?_; rintro e w8 ⟨rfl, j8⟩; have k8 : Kept [] w5 w8 := k7.trans j8 (by simp)
        try go_wp2_with fail
        refine hK.out _ _ ?_ (fun hHeld => ?_)
        · (try dsimp only); (first | exact ⟨hz5.out.kept k8 (by simp), hy5.out.kept k8 (by simp)⟩ | exact ⟨hz5.out.kept k7 (by simp), hy5.out.kept k7 (by simp)⟩ | exact ⟨hz5.out.kept k6 (by simp), hy5.out.kept k6 (by simp)⟩ | exact ⟨hz5.out.kept (Kept.refl [] w5).drew (by simp), hy5.out.kept (Kept.refl [] w5).drew (by simp)⟩)
        clear hK K
        try simp only [Act.put, List.getElem_toArray, List.getElem_cons_succ, List.getElem_cons_zero, List.setIfInBounds_toArray, List.set_cons_zero, List.set_cons_succ]
        refine wpAnyH_take (i := 13) (v := ?_) rfl (by kernel_rfl) (by kernel_rfl) (by kernel_rfl) (fun _ _ _ h => h) (Or.inl ⟨by rfl, ?_⟩) (by assumption) ?_
        rotate_left
        · (intro wq hSw; (try dsimp only at hSw); go_simp; try with_reducible rfl)
        try simp only [Act.put, List.getElem_toArray, List.getElem_cons_succ, List.getElem_cons_zero, List.setIfInBounds_toArray, List.set_cons_zero, List.set_cons_succ]
        refine wpAnyH_take (i := 14) (v := ?_) rfl (by kernel_rfl) (by kernel_rfl) (by kernel_rfl) (fun _ _ _ h => h) (Or.inl ⟨by rfl, ?_⟩) (by assumption) ?_
        rotate_left
        · (intro wq hSw; (try dsimp only at hSw); go_simp; try with_reducible rfl)
        try simp only [Act.put, List.getElem_toArray, List.getElem_cons_succ, List.getElem_cons_zero, List.setIfInBounds_toArray, List.set_cons_zero, List.set_cons_succ]
        refine wpAnyH_take (i := 15) (v := ?_) rfl (by kernel_rfl) (by kernel_rfl) (by kernel_rfl) (fun _ _ _ h => h) (Or.inl ⟨by rfl, ?_⟩) (by assumption) ?_
        rotate_left
        · (intro wq hSw; (try dsimp only at hSw); go_simp; try with_reducible rfl)
        try simp only [Act.put, List.getElem_toArray, List.getElem_cons_succ, List.getElem_cons_zero, List.setIfInBounds_toArray, List.set_cons_zero, List.set_cons_succ]
        refine wpAnyH_done (by kernel_rfl) ?_ _
        have rz := (hz5.out.kept k8 (by simp)).range
        have hyw := hy5.out.kept k8 (by simp)
        go_upto_region 15 with fail
        go_wp2_with (first | refine wpList_load_cel rfl rfl w4.heap.size 0 rfl rz ?_ | (refine wpList_store_cel rfl rfl rfl w2.heap.size rfl hyw z rfl ?_; intro w9 hy9 j9))
        go_roundg (5 - (i + 1))
        case measure => omega
        case rel => exact ⟨i + 1, z, by push_cast; rfl, by omega, by omega, hy9, by rw [hI.out.2.2] at hI2; exact hI2, (k5.out.trans k8 (by simp)).trans j9 (by intro u hu; simp at hu; have := hsz2.out; exact .inr (by omega))⟩
      · have eno : (no != 0) = true := by simpa using hno0
        have kV := k5
        clear hno0 hok hVz hTz hTy hy5 hz5
        have rA := hA.out.kept kV.out (by simp)
        have rB := hB.out.kept kV.out (by simp)
        go_wp2_with fail
        refine (Fix_any a n cp la _ rA (by omega)).mono ?_
        rintro e V1 ⟨ax, cx, rfl, ox', jv⟩
        have kV1 := hide (kV.out.trans jv (by simp))
        have ox1 := hide (ox'.base (show w.heap.size ≤ _ from kV.out.size))
        have rB1 := rB.kept jv (by simp)
        clear rA rB jv ox'
        go_wp2_with fail
        refine (Fix_any b n2 cp2 lb _ rB1 (by omega)).mono ?_
        rintro e V2 ⟨ay, cy, rfl, oy', jv⟩
        have kV2 := hide (kV1.out.trans jv (by simp))
        have oy2 := hide (oy'.base (show w.heap.size ≤ _ from kV1.out.size))
        have ox2 := hide (ox1.out.kept jv (by simp))
        clear rB1 jv oy' ox1 kV1
        go_upto_region 19 with fail
        go_loopg [19, 21, 89, 90, 91, 92, 93, 94, 95, 96, 97, 98] n (fun kx s19 s21 s89 s90 s91 s92 s93 s94 s95 s96 s97 s98 wr => ∃ k : Nat, s89 = .int .i64 k ∧ s19 = .bool ((la.take k).all validC) ∧ k ≤ n ∧ n - k ≤ kx ∧ Hid (Own wr w.heap.size 30 ax n cx 16 (cellsV (fixI la))) ∧ Hid (Own wr w.heap.size 30 ay n2 cy 16 (cellsV (fixI lb))) ∧ Kept [] w wr)
        case atStart => exact ⟨0, rfl, rfl, Nat.zero_le _, by omega, ox2, oy2, kV2.out⟩
        case round =>
          obtain ⟨k, rfl, rfl, hk, hg, oxk, oyk, hkk⟩ := hrel
          by_cases hlt : k < n
          · have hkl : k < la.length := by rw [hla.out]; exact hlt
            obtain ⟨ga, oa, rfl⟩ := hA.out.addr (fun h => by rw [h] at hkl; cases hkl)
            have r1 := (hA.out.cel k hkl).kept hkk (by simp)
            have hkn : (k : Int) < (n : Int) := by omega
            have hnx := hide (show (la.take (k + 1)).all validC = ((la.take k).all validC && validC la[k]) by rw [List.take_succ_eq_append_getElem hkl, List.all_append]; simp)
            generalize la[k] = x at *
            have hcz : CelIn (wr.alloc (.cells #[.int .i32 0, .int .i32 0, .int .i32 0, .int .i32 0, .int .i64 0, .int .i64 0, .int .u8 0, .int .u8 0, .int .u8 0, .int .u8 0, .int .i64 0, .int .u8 0, .int .u8 0, .int .u8 0, .int .u8 0, .int .u8 0] 30)) wr.heap.size zeroK := heap_alloc_new wr _
            go_upto_region 20 with fail
            go_upto_region 21 with (first | refine wpList_load_cel rfl rfl ga (oa + k * 16) rfl r1 ?_ | (refine wpList_store_cel rfl rfl rfl wr.heap.size rfl hcz x rfl ?_; intro X2 hx2 jx))
            have kx2 : Kept [] wr X2 := ((Kept.refl [] wr).alloc _).trans jx (by intro z hz; simp at hz; omega)
            have kX2 := hide (hkk.trans kx2 (by simp))
            have ox2' := hide (oxk.out.kept kx2 (by simp))
            have oy2' := hide (oyk.out.kept kx2 (by simp))
            have rx := hx2.range
            clear hcz jx r1 kx2 oxk oyk hkk hx2
            generalize hv0 : (la.take k).all validC = vk at *
            clear hv0
            cases vk
            · go_wp2_with fail
              go_roundg (n - (k + 1))
              case measure => omega
              case rel => exact ⟨k + 1, by push_cast; rfl, by rw [hnx.out]; rfl, by omega, Nat.le_refl _, ox2', oy2', kX2.out⟩
            · go_wp2_with (refine wpList_load_celW rfl (by rfl) wr.heap.size 0 rfl rx ?_)
              refine (cvalid_any x _ (hT.out _ kX2.out)).mono ?_
              rintro e X3 ⟨rfl, jx⟩
              have kX3 := kX2.out.trans jx (by simp)
              have ox3 := hide (ox2'.out.kept jx (by simp))
              have oy3 := hide (oy2'.out.kept jx (by simp))
              go_wp2_with fail
              go_roundg (n - (k + 1))
              case measure => omega
              case rel => exact ⟨k + 1, by push_cast; rfl, by rw [hnx.out]; rfl, by omega, Nat.le_refl _, ox3, oy3, kX3⟩
          · obtain rfl : k = n := by omega
            rw [List.take_of_length_le (Nat.le_of_eq hla.out)]
            have kY := hide hkk
            have oxY := oxk
            have oyY := oyk
            clear hkk oxk oyk ox2 oy2 kV2 kV
            have hVal0 := hide (fun (h : la.all validC = true) => (List.all_eq_true.1 h))
            generalize hv0 : la.all validC = vk at *
            cases vk
            · clear hv0 hVal0
              go_wp2_with fail
              refine (row_ask la _ rfl a k cp _ (hT.out _ kY.out) (hA.out.kept kY.out (by simp)) (by omega)).mono ?_
              rintro e Y2 ⟨rfl, jy⟩
              have kY2 := hide (kY.out.trans jy (by simp))
              have oxY2 := hide (oxY.out.kept jy (by simp))
              have oyY2 := hide (oyY.out.kept jy (by simp))
              clear jy kY oxY oyY
              generalize hR0 : rowI la = RA
              have hRA := hide hR0
              clear hR0
              cases RA
              · skip
                have kY3 := kY2
                have oxY3 := oxY2
                have oyY3 := oyY2

                go_wp2_with fail
                refine (Fix_any ax k cx (fixI la) _ oxY3.out.rd (by omega)).mono ?_
                rintro e Y4 ⟨aw, cw, rfl, ow', jy⟩
                rw [fix_fix] at ow'
                have kY4 := hide (kY3.out.trans jy (by simp))
                have oxY4 := hide (oxY3.out.kept jy (by simp))
                have oyY4 := hide (oyY3.out.kept jy (by simp))
                have ow4 := hide ow'
                clear jy kY3 oxY3 oyY3 ow'
                go_wp2_with fail
                refine (same_true aw k cw (fixI la) ax k cx _ ow4.out.rd oxY4.out.rd (by omega)).mono ?_
                rintro e Y5 ⟨rfl, jy⟩
                have kP := hide (kY4.out.trans jy (by simp))
                have oxP := hide (oxY4.out.kept jy (by simp))
                have oyP := hide (oyY4.out.kept jy (by simp))
                have hnn : ((k : Int) != (k : Int)) = false := by simp
                clear jy kY4 oxY4 oyY4 ow4

                go_wp2_with fail
                refine (row_ask (fixI la) _ rfl ax k cx _ (hT.out _ kP.out) oxP.out.rd (by omega)).mono ?_
                rintro e Z1 ⟨rfl, jz⟩
                have kQ := hide (kP.out.trans jz (by simp))
                have oxQ := hide (oxP.out.kept jz (by simp))
                have oyQ := hide (oyP.out.kept jz (by simp))
                clear jz kP oxP oyP
                have hXYh := hide (row_app (fixI la) (fixI lb) zeroK)
                generalize hX0 : rowI (fixI la) = RX
                have hX := hide hX0
                clear hX0
                cases RX
                · skip
                  go_wp2_with fail
                  refine (hKN.out _ (hT.out _ kQ.out)).mono ?_
                  rintro e Z9 ⟨rfl, jZ⟩
                  go_wp2_with fail
                  go_ret
                  exact ⟨rfl, kQ.out.trans jZ (by simp)⟩
                · skip

                  go_wp2_with fail
                  refine (row_ask (fixI lb) _ rfl ay n2 cy _ (hT.out _ kQ.out) oyQ.out.rd (by omega)).mono ?_
                  rintro e Z2 ⟨rfl, jz⟩
                  have kR := hide (kQ.out.trans jz (by simp))
                  have oxR := hide (oxQ.out.kept jz (by simp))
                  have oyR := hide (oyQ.out.kept jz (by simp))
                  clear jz kQ oxQ oyQ
                  generalize hY0 : rowI (fixI lb) = RY
                  have hY := hide hY0
                  clear hY0
                  cases RY
                  · have kQ := kR
                    go_wp2_with fail
                    refine (hKN.out _ (hT.out _ kQ.out)).mono ?_
                    rintro e Z9 ⟨rfl, jZ⟩
                    go_wp2_with fail
                    go_ret
                    exact ⟨rfl, kQ.out.trans jZ (by simp)⟩
                  · have rx := oxR.out.rd
                    have ry := oyR.out.rd
                    have szR := kR.out.size
                    go_wp2_with (first
                      | (at_builtin; refine wpList_appW ?_ (by rfl) elCell rfl rfl oz1 rfl ry3 (cellsV_one _) (by omega) (by omega); intro az2 cz2 Z4 oz2 kz2 hz2)
                      | (at_builtin; refine wpList_appW ?_ (by rfl) elCell rfl rfl (Own.nil Z2 w.heap.size 30 16) rfl rx (cellsV_one _) (by omega) (by omega); intro az1 cz1 Z3 oz1 kz1' hz1; rw [List.nil_append, Nat.zero_add] at oz1; (try rw [Nat.zero_add]); have kz1 : Kept [] Z2 Z3 := kz1'; have ry3 := ry.kept kz1 (by simp); have sz1 := kz1.size))
                    have kS : Kept [] w Z4 := ((kR.out.trans kz1 (by simp)).trans kz2 (fun z hz => .inr (oz1.ge z hz).1))
                    have oz3 : Rd Z4 az2 (k + n2) 16 (cellsV (fixI la ++ fixI lb)) := by
                      have h := oz2.rd
                      rw [← cellsV_app] at h
                      exact h
                    refine (row_ask (fixI la ++ fixI lb) true (hXYh.out hX.out hY.out) az2 _ cz2 Z4 (hT.out _ kS) oz3 (by omega)).mono ?_
                    rintro e Z5 ⟨rfl, jz⟩
                    have kQ := hide (kS.trans jz (by simp))
                    clear jz kS oz3 kz1' kz2 hz1 hz2 oz1 oz2 kz1 ry3 rx ry
                    go_wp2_with fail
                    refine (hKN.out _ (hT.out _ kQ.out)).mono ?_
                    rintro e Z9 ⟨rfl, jZ⟩
                    go_wp2_with fail
                    go_ret
                    exact ⟨rfl, kQ.out.trans jZ (by simp)⟩
              · skip
                go_wp2_with fail
                refine ((Same_any ax k cx (fixI la) a k cp la _ oxY2.out.rd (hA.out.kept kY2.out (by simp)) (by omega)).mono (fun e w' h => (⟨h.1.trans (by rw [row_fix la hRA.out]; simp), h.2⟩ : e = .returned (.bool true) ∧ Kept [] _ w'))).mono ?_
                rintro e Y3 ⟨rfl, jy⟩
                have kY3 := hide (kY2.out.trans jy (by simp))
                have oxY3 := hide (oxY2.out.kept jy (by simp))
                have oyY3 := hide (oyY2.out.kept jy (by simp))
                clear jy kY2 oxY2 oyY2

                go_wp2_with fail
                refine (Fix_any ax k cx (fixI la) _ oxY3.out.rd (by omega)).mono ?_
                rintro e Y4 ⟨aw, cw, rfl, ow', jy⟩
                rw [fix_fix] at ow'
                have kY4 := hide (kY3.out.trans jy (by simp))
                have oxY4 := hide (oxY3.out.kept jy (by simp))
                have oyY4 := hide (oyY3.out.kept jy (by simp))
                have ow4 := hide ow'
                clear jy kY3 oxY3 oyY3 ow'
                go_wp2_with fail
                refine (same_true aw k cw (fixI la) ax k cx _ ow4.out.rd oxY4.out.rd (by omega)).mono ?_
                rintro e Y5 ⟨rfl, jy⟩
                have kP := hide (kY4.out.trans jy (by simp))
                have oxP := hide (oxY4.out.kept jy (by simp))
                have oyP := hide (oyY4.out.kept jy (by simp))
                have hnn : ((k : Int) != (k : Int)) = false := by simp
                clear jy kY4 oxY4 oyY4 ow4

                go_wp2_with fail
                refine (row_ask (fixI la) _ rfl ax k cx _ (hT.out _ kP.out) oxP.out.rd (by omega)).mono ?_
                rintro e Z1 ⟨rfl, jz⟩
                have kQ := hide (kP.out.trans jz (by simp))
                have oxQ := hide (oxP.out.kept jz (by simp))
                have oyQ := hide (oyP.out.kept jz (by simp))
                clear jz kP oxP oyP
                have hXYh := hide (row_app (fixI la) (fixI lb) zeroK)
                generalize hX0 : rowI (fixI la) = RX
                have hX := hide hX0
                clear hX0
                cases RX
                · skip
                  go_wp2_with fail
                  refine (hKN.out _ (hT.out _ kQ.out)).mono ?_
                  rintro e Z9 ⟨rfl, jZ⟩
                  go_wp2_with fail
                  go_ret
                  exact ⟨rfl, kQ.out.trans jZ (by simp)⟩
                · skip

                  go_wp2_with fail
                  refine (row_ask (fixI lb) _ rfl ay n2 cy _ (hT.out _ kQ.out) oyQ.out.rd (by omega)).mono ?_
                  rintro e Z2 ⟨rfl, jz⟩
                  have kR := hide (kQ.out.trans jz (by simp))
                  have oxR := hide (oxQ.out.kept jz (by simp))
                  have oyR := hide (oyQ.out.kept jz (by simp))
                  clear jz kQ oxQ oyQ
                  generalize hY0 : rowI (fixI lb) = RY
                  have hY := hide hY0
                  clear hY0
                  cases RY
                  · have kQ := kR
                    go_wp2_with fail
                    refine (hKN.out _ (hT.out _ kQ.out)).mono ?_
                    rintro e Z9 ⟨rfl, jZ⟩
                    go_wp2_with fail
                    go_ret
                    exact ⟨rfl, kQ.out.trans jZ (by simp)⟩
                  · have rx := oxR.out.rd
                    have ry := oyR.out.rd
                    have szR := kR.out.size
                    go_wp2_with (first
                      | (at_builtin; refine wpList_appW ?_ (by rfl) elCell rfl rfl oz1 rfl ry3 (cellsV_one _) (by omega) (by omega); intro az2 cz2 Z4 oz2 kz2 hz2)
                      | (at_builtin; refine wpList_appW ?_ (by rfl) elCell rfl rfl (Own.nil Z2 w.heap.size 30 16) rfl rx (cellsV_one _) (by omega) (by omega); intro az1 cz1 Z3 oz1 kz1' hz1; rw [List.nil_append, Nat.zero_add] at oz1; (try rw [Nat.zero_add]); have kz1 : Kept [] Z2 Z3 := kz1'; have ry3 := ry.kept kz1 (by simp); have sz1 := kz1.size))
                    have kS : Kept [] w Z4 := ((kR.out.trans kz1 (by simp)).trans kz2 (fun z hz => .inr (oz1.ge z hz).1))
                    have oz3 : Rd Z4 az2 (k + n2) 16 (cellsV (fixI la ++ fixI lb)) := by
                      have h := oz2.rd
                      rw [← cellsV_app] at h
                      exact h
                    refine (row_ask (fixI la ++ fixI lb) true (hXYh.out hX.out hY.out) az2 _ cz2 Z4 (hT.out _ kS) oz3 (by omega)).mono ?_
                    rintro e Z5 ⟨rfl, jz⟩
                    have kQ := hide (kS.trans jz (by simp))
                    clear jz kS oz3 kz1' kz2 hz1 hz2 oz1 oz2 kz1 ry3 rx ry
                    go_wp2_with fail
                    refine (hKN.out _ (hT.out _ kQ.out)).mono ?_
                    rintro e Z9 ⟨rfl, jZ⟩
                    go_wp2_with fail
                    go_ret
                    exact ⟨rfl, kQ.out.trans jZ (by simp)⟩
            · have hVal : Hid (∀ c ∈ la, validC c = true) := hide (hVal0.out rfl)
              clear hv0 hVal0
              go_wp2_with fail
              refine (row_ask (fixI la) true (fix_row la hVal.out) ax k cx _ (hT.out _ kY.out) oxY.out.rd (by omega)).mono ?_
              rintro e Y1 ⟨rfl, jy⟩
              have kY := hide (kY.out.trans jy (by simp))
              have oxY := hide (oxY.out.kept jy (by simp))
              have oyY := hide (oyY.out.kept jy (by simp))
              clear jy

              go_wp2_with fail
              refine (row_ask la _ rfl a k cp _ (hT.out _ kY.out) (hA.out.kept kY.out (by simp)) (by omega)).mono ?_
              rintro e Y2 ⟨rfl, jy⟩
              have kY2 := hide (kY.out.trans jy (by simp))
              have oxY2 := hide (oxY.out.kept jy (by simp))
              have oyY2 := hide (oyY.out.kept jy (by simp))
              clear jy kY oxY oyY
              generalize hR0 : rowI la = RA
              have hRA := hide hR0
              clear hR0
              cases RA
              · skip
                have kY3 := kY2
                have oxY3 := oxY2
                have oyY3 := oyY2

                go_wp2_with fail
                refine (Fix_any ax k cx (fixI la) _ oxY3.out.rd (by omega)).mono ?_
                rintro e Y4 ⟨aw, cw, rfl, ow', jy⟩
                rw [fix_fix] at ow'
                have kY4 := hide (kY3.out.trans jy (by simp))
                have oxY4 := hide (oxY3.out.kept jy (by simp))
                have oyY4 := hide (oyY3.out.kept jy (by simp))
                have ow4 := hide ow'
                clear jy kY3 oxY3 oyY3 ow'
                go_wp2_with fail
                refine (same_true aw k cw (fixI la) ax k cx _ ow4.out.rd oxY4.out.rd (by omega)).mono ?_
                rintro e Y5 ⟨rfl, jy⟩
                have kP := hide (kY4.out.trans jy (by simp))
                have oxP := hide (oxY4.out.kept jy (by simp))
                have oyP := hide (oyY4.out.kept jy (by simp))
                have hnn : ((k : Int) != (k : Int)) = false := by simp
                clear jy kY4 oxY4 oyY4 ow4

                go_wp2_with fail
                refine (row_ask (fixI la) _ rfl ax k cx _ (hT.out _ kP.out) oxP.out.rd (by omega)).mono ?_
                rintro e Z1 ⟨rfl, jz⟩
                have kQ := hide (kP.out.trans jz (by simp))
                have oxQ := hide (oxP.out.kept jz (by simp))
                have oyQ := hide (oyP.out.kept jz (by simp))
                clear jz kP oxP oyP
                have hXYh := hide (row_app (fixI la) (fixI lb) zeroK)
                generalize hX0 : rowI (fixI la) = RX
                have hX := hide hX0
                clear hX0
                cases RX
                · skip
                  go_wp2_with fail
                  refine (hKN.out _ (hT.out _ kQ.out)).mono ?_
                  rintro e Z9 ⟨rfl, jZ⟩
                  go_wp2_with fail
                  go_ret
                  exact ⟨rfl, kQ.out.trans jZ (by simp)⟩
                · skip

                  go_wp2_with fail
                  refine (row_ask (fixI lb) _ rfl ay n2 cy _ (hT.out _ kQ.out) oyQ.out.rd (by omega)).mono ?_
                  rintro e Z2 ⟨rfl, jz⟩
                  have kR := hide (kQ.out.trans jz (by simp))
                  have oxR := hide (oxQ.out.kept jz (by simp))
                  have oyR := hide (oyQ.out.kept jz (by simp))
                  clear jz kQ oxQ oyQ
                  generalize hY0 : rowI (fixI lb) = RY
                  have hY := hide hY0
                  clear hY0
                  cases RY
                  · have kQ := kR
                    go_wp2_with fail
                    refine (hKN.out _ (hT.out _ kQ.out)).mono ?_
                    rintro e Z9 ⟨rfl, jZ⟩
                    go_wp2_with fail
                    go_ret
                    exact ⟨rfl, kQ.out.trans jZ (by simp)⟩
                  · have rx := oxR.out.rd
                    have ry := oyR.out.rd
                    have szR := kR.out.size
                    go_wp2_with (first
                      | (at_builtin; refine wpList_appW ?_ (by rfl) elCell rfl rfl oz1 rfl ry3 (cellsV_one _) (by omega) (by omega); intro az2 cz2 Z4 oz2 kz2 hz2)
                      | (at_builtin; refine wpList_appW ?_ (by rfl) elCell rfl rfl (Own.nil Z2 w.heap.size 30 16) rfl rx (cellsV_one _) (by omega) (by omega); intro az1 cz1 Z3 oz1 kz1' hz1; rw [List.nil_append, Nat.zero_add] at oz1; (try rw [Nat.zero_add]); have kz1 : Kept [] Z2 Z3 := kz1'; have ry3 := ry.kept kz1 (by simp); have sz1 := kz1.size))
                    have kS : Kept [] w Z4 := ((kR.out.trans kz1 (by simp)).trans kz2 (fun z hz => .inr (oz1.ge z hz).1))
                    have oz3 : Rd Z4 az2 (k + n2) 16 (cellsV (fixI la ++ fixI lb)) := by
                      have h := oz2.rd
                      rw [← cellsV_app] at h
                      exact h
                    refine (row_ask (fixI la ++ fixI lb) true (hXYh.out hX.out hY.out) az2 _ cz2 Z4 (hT.out _ kS) oz3 (by omega)).mono ?_
                    rintro e Z5 ⟨rfl, jz⟩
                    have kQ := hide (kS.trans jz (by simp))
                    clear jz kS oz3 kz1' kz2 hz1 hz2 oz1 oz2 kz1 ry3 rx ry
                    go_wp2_with fail
                    refine (hKN.out _ (hT.out _ kQ.out)).mono ?_
                    rintro e Z9 ⟨rfl, jZ⟩
                    go_wp2_with fail
                    go_ret
                    exact ⟨rfl, kQ.out.trans jZ (by simp)⟩
              · skip
                go_wp2_with fail
                refine ((Same_any ax k cx (fixI la) a k cp la _ oxY2.out.rd (hA.out.kept kY2.out (by simp)) (by omega)).mono (fun e w' h => (⟨h.1.trans (by rw [row_fix la hRA.out]; simp), h.2⟩ : e = .returned (.bool true) ∧ Kept [] _ w'))).mono ?_
                rintro e Y3 ⟨rfl, jy⟩
                have kY3 := hide (kY2.out.trans jy (by simp))
                have oxY3 := hide (oxY2.out.kept jy (by simp))
                have oyY3 := hide (oyY2.out.kept jy (by simp))
                clear jy kY2 oxY2 oyY2

                go_wp2_with fail
                refine (Fix_any ax k cx (fixI la) _ oxY3.out.rd (by omega)).mono ?_
                rintro e Y4 ⟨aw, cw, rfl, ow', jy⟩
                rw [fix_fix] at ow'
                have kY4 := hide (kY3.out.trans jy (by simp))
                have oxY4 := hide (oxY3.out.kept jy (by simp))
                have oyY4 := hide (oyY3.out.kept jy (by simp))
                have ow4 := hide ow'
                clear jy kY3 oxY3 oyY3 ow'
                go_wp2_with fail
                refine (same_true aw k cw (fixI la) ax k cx _ ow4.out.rd oxY4.out.rd (by omega)).mono ?_
                rintro e Y5 ⟨rfl, jy⟩
                have kP := hide (kY4.out.trans jy (by simp))
                have oxP := hide (oxY4.out.kept jy (by simp))
                have oyP := hide (oyY4.out.kept jy (by simp))
                have hnn : ((k : Int) != (k : Int)) = false := by simp
                clear jy kY4 oxY4 oyY4 ow4

                go_wp2_with fail
                refine (row_ask (fixI la) _ rfl ax k cx _ (hT.out _ kP.out) oxP.out.rd (by omega)).mono ?_
                rintro e Z1 ⟨rfl, jz⟩
                have kQ := hide (kP.out.trans jz (by simp))
                have oxQ := hide (oxP.out.kept jz (by simp))
                have oyQ := hide (oyP.out.kept jz (by simp))
                clear jz kP oxP oyP
                have hXYh := hide (row_app (fixI la) (fixI lb) zeroK)
                generalize hX0 : rowI (fixI la) = RX
                have hX := hide hX0
                clear hX0
                cases RX
                · skip
                  go_wp2_with fail
                  refine (hKN.out _ (hT.out _ kQ.out)).mono ?_
                  rintro e Z9 ⟨rfl, jZ⟩
                  go_wp2_with fail
                  go_ret
                  exact ⟨rfl, kQ.out.trans jZ (by simp)⟩
                · skip

                  go_wp2_with fail
                  refine (row_ask (fixI lb) _ rfl ay n2 cy _ (hT.out _ kQ.out) oyQ.out.rd (by omega)).mono ?_
                  rintro e Z2 ⟨rfl, jz⟩
                  have kR := hide (kQ.out.trans jz (by simp))
                  have oxR := hide (oxQ.out.kept jz (by simp))
                  have oyR := hide (oyQ.out.kept jz (by simp))
                  clear jz kQ oxQ oyQ
                  generalize hY0 : rowI (fixI lb) = RY
                  have hY := hide hY0
                  clear hY0
                  cases RY
                  · have kQ := kR
                    go_wp2_with fail
                    refine (hKN.out _ (hT.out _ kQ.out)).mono ?_
                    rintro e Z9 ⟨rfl, jZ⟩
                    go_wp2_with fail
                    go_ret
                    exact ⟨rfl, kQ.out.trans jZ (by simp)⟩
                  · have rx := oxR.out.rd
                    have ry := oyR.out.rd
                    have szR := kR.out.size
                    go_wp2_with (first
                      | (at_builtin; refine wpList_appW ?_ (by rfl) elCell rfl rfl oz1 rfl ry3 (cellsV_one _) (by omega) (by omega); intro az2 cz2 Z4 oz2 kz2 hz2)
                      | (at_builtin; refine wpList_appW ?_ (by rfl) elCell rfl rfl (Own.nil Z2 w.heap.size 30 16) rfl rx (cellsV_one _) (by omega) (by omega); intro az1 cz1 Z3 oz1 kz1' hz1; rw [List.nil_append, Nat.zero_add] at oz1; (try rw [Nat.zero_add]); have kz1 : Kept [] Z2 Z3 := kz1'; have ry3 := ry.kept kz1 (by simp); have sz1 := kz1.size))
                    have kS : Kept [] w Z4 := ((kR.out.trans kz1 (by simp)).trans kz2 (fun z hz => .inr (oz1.ge z hz).1))
                    have oz3 : Rd Z4 az2 (k + n2) 16 (cellsV (fixI la ++ fixI lb)) := by
                      have h := oz2.rd
                      rw [← cellsV_app] at h
                      exact h
                    refine (row_ask (fixI la ++ fixI lb) true (hXYh.out hX.out hY.out) az2 _ cz2 Z4 (hT.out _ kS) oz3 (by omega)).mono ?_
                    rintro e Z5 ⟨rfl, jz⟩
                    have kQ := hide (kS.trans jz (by simp))
                    clear jz kS oz3 kz1' kz2 hz1 hz2 oz1 oz2 kz1 ry3 rx ry
                    go_wp2_with fail
                    refine (hKN.out _ (hT.out _ kQ.out)).mono ?_
                    rintro e Z9 ⟨rfl, jZ⟩
                    go_wp2_with fail
                    go_ret
                    exact ⟨rfl, kQ.out.trans jZ (by simp)⟩
  · have ex : (x == 0) = false := by simpa using hx0
    have kV := hk1
    clear hx0 hOK hk1 hrl
    have rA := hA.out.kept kV.out (by simp)
    have rB := hB.out.kept kV.out (by simp)
    go_wp2_with fail
    refine (Fix_any a n cp la _ rA (by omega)).mono ?_
    rintro e V1 ⟨ax, cx, rfl, ox', jv⟩
    have kV1 := hide (kV.out.trans jv (by simp))
    have ox1 := hide (ox'.base (show w.heap.size ≤ _ from kV.out.size))
    have rB1 := rB.kept jv (by simp)
    clear rA rB jv ox'
    go_wp2_with fail
    refine (Fix_any b n2 cp2 lb _ rB1 (by omega)).mono ?_
    rintro e V2 ⟨ay, cy, rfl, oy', jv⟩
    have kV2 := hide (kV1.out.trans jv (by simp))
    have oy2 := hide (oy'.base (show w.heap.size ≤ _ from kV1.out.size))
    have ox2 := hide (ox1.out.kept jv (by simp))
    clear rB1 jv oy' ox1 kV1
    go_upto_region 19 with fail
    go_loopg [19, 21, 89, 90, 91, 92, 93, 94, 95, 96, 97, 98] n (fun kx s19 s21 s89 s90 s91 s92 s93 s94 s95 s96 s97 s98 wr => ∃ k : Nat, s89 = .int .i64 k ∧ s19 = .bool ((la.take k).all validC) ∧ k ≤ n ∧ n - k ≤ kx ∧ Hid (Own wr w.heap.size 30 ax n cx 16 (cellsV (fixI la))) ∧ Hid (Own wr w.heap.size 30 ay n2 cy 16 (cellsV (fixI lb))) ∧ Kept [] w wr)
    case atStart => exact ⟨0, rfl, rfl, Nat.zero_le _, by omega, ox2, oy2, kV2.out⟩
    case round =>
      obtain ⟨k, rfl, rfl, hk, hg, oxk, oyk, hkk⟩ := hrel
      by_cases hlt : k < n
      · have hkl : k < la.length := by rw [hla.out]; exact hlt
        obtain ⟨ga, oa, rfl⟩ := hA.out.addr (fun h => by rw [h] at hkl; cases hkl)
        have r1 := (hA.out.cel k hkl).kept hkk (by simp)
        have hkn : (k : Int) < (n : Int) := by omega
        have hnx := hide (show (la.take (k + 1)).all validC = ((la.take k).all validC && validC la[k]) by rw [List.take_succ_eq_append_getElem hkl, List.all_append]; simp)
        generalize la[k] = x at *
        have hcz : CelIn (wr.alloc (.cells #[.int .i32 0, .int .i32 0, .int .i32 0, .int .i32 0, .int .i64 0, .int .i64 0, .int .u8 0, .int .u8 0, .int .u8 0, .int .u8 0, .int .i64 0, .int .u8 0, .int .u8 0, .int .u8 0, .int .u8 0, .int .u8 0] 30)) wr.heap.size zeroK := heap_alloc_new wr _
        go_upto_region 20 with fail
        go_upto_region 21 with (first | refine wpList_load_cel rfl rfl ga (oa + k * 16) rfl r1 ?_ | (refine wpList_store_cel rfl rfl rfl wr.heap.size rfl hcz x rfl ?_; intro X2 hx2 jx))
        have kx2 : Kept [] wr X2 := ((Kept.refl [] wr).alloc _).trans jx (by intro z hz; simp at hz; omega)
        have kX2 := hide (hkk.trans kx2 (by simp))
        have ox2' := hide (oxk.out.kept kx2 (by simp))
        have oy2' := hide (oyk.out.kept kx2 (by simp))
        have rx := hx2.range
        clear hcz jx r1 kx2 oxk oyk hkk hx2
        generalize hv0 : (la.take k).all validC = vk at *
        clear hv0
        cases vk
        · go_wp2_with fail
          go_roundg (n - (k + 1))
          case measure => omega
          case rel => exact ⟨k + 1, by push_cast; rfl, by rw [hnx.out]; rfl, by omega, Nat.le_refl _, ox2', oy2', kX2.out⟩
        · go_wp2_with (refine wpList_load_celW rfl (by rfl) wr.heap.size 0 rfl rx ?_)
          refine (cvalid_any x _ (hT.out _ kX2.out)).mono ?_
          rintro e X3 ⟨rfl, jx⟩
          have kX3 := kX2.out.trans jx (by simp)
          have ox3 := hide (ox2'.out.kept jx (by simp))
          have oy3 := hide (oy2'.out.kept jx (by simp))
          go_wp2_with fail
          go_roundg (n - (k + 1))
          case measure => omega
          case rel => exact ⟨k + 1, by push_cast; rfl, by rw [hnx.out]; rfl, by omega, Nat.le_refl _, ox3, oy3, kX3⟩
      · obtain rfl : k = n := by omega
        rw [List.take_of_length_le (Nat.le_of_eq hla.out)]
        have kY := hide hkk
        have oxY := oxk
        have oyY := oyk
        clear hkk oxk oyk ox2 oy2 kV2 kV
        have hVal0 := hide (fun (h : la.all validC = true) => (List.all_eq_true.1 h))
        generalize hv0 : la.all validC = vk at *
        cases vk
        · clear hv0 hVal0
          go_wp2_with fail
          refine (row_ask la _ rfl a k cp _ (hT.out _ kY.out) (hA.out.kept kY.out (by simp)) (by omega)).mono ?_
          rintro e Y2 ⟨rfl, jy⟩
          have kY2 := hide (kY.out.trans jy (by simp))
          have oxY2 := hide (oxY.out.kept jy (by simp))
          have oyY2 := hide (oyY.out.kept jy (by simp))
          clear jy kY oxY oyY
          generalize hR0 : rowI la = RA
          have hRA := hide hR0
          clear hR0
          cases RA
          · skip
            have kY3 := kY2
            have oxY3 := oxY2
            have oyY3 := oyY2

            go_wp2_with fail
            refine (Fix_any ax k cx (fixI la) _ oxY3.out.rd (by omega)).mono ?_
            rintro e Y4 ⟨aw, cw, rfl, ow', jy⟩
            rw [fix_fix] at ow'
            have kY4 := hide (kY3.out.trans jy (by simp))
            have oxY4 := hide (oxY3.out.kept jy (by simp))
            have oyY4 := hide (oyY3.out.kept jy (by simp))
            have ow4 := hide ow'
            clear jy kY3 oxY3 oyY3 ow'
            go_wp2_with fail
            refine (same_true aw k cw (fixI la) ax k cx _ ow4.out.rd oxY4.out.rd (by omega)).mono ?_
            rintro e Y5 ⟨rfl, jy⟩
            have kP := hide (kY4.out.trans jy (by simp))
            have oxP := hide (oxY4.out.kept jy (by simp))
            have oyP := hide (oyY4.out.kept jy (by simp))
            have hnn : ((k : Int) != (k : Int)) = false := by simp
            clear jy kY4 oxY4 oyY4 ow4

            go_wp2_with fail
            refine (row_ask (fixI la) _ rfl ax k cx _ (hT.out _ kP.out) oxP.out.rd (by omega)).mono ?_
            rintro e Z1 ⟨rfl, jz⟩
            have kQ := hide (kP.out.trans jz (by simp))
            have oxQ := hide (oxP.out.kept jz (by simp))
            have oyQ := hide (oyP.out.kept jz (by simp))
            clear jz kP oxP oyP
            have hXYh := hide (row_app (fixI la) (fixI lb) zeroK)
            generalize hX0 : rowI (fixI la) = RX
            have hX := hide hX0
            clear hX0
            cases RX
            · skip
              go_wp2_with fail
              refine (hKN.out _ (hT.out _ kQ.out)).mono ?_
              rintro e Z9 ⟨rfl, jZ⟩
              go_wp2_with fail
              go_ret
              exact ⟨rfl, kQ.out.trans jZ (by simp)⟩
            · skip

              go_wp2_with fail
              refine (row_ask (fixI lb) _ rfl ay n2 cy _ (hT.out _ kQ.out) oyQ.out.rd (by omega)).mono ?_
              rintro e Z2 ⟨rfl, jz⟩
              have kR := hide (kQ.out.trans jz (by simp))
              have oxR := hide (oxQ.out.kept jz (by simp))
              have oyR := hide (oyQ.out.kept jz (by simp))
              clear jz kQ oxQ oyQ
              generalize hY0 : rowI (fixI lb) = RY
              have hY := hide hY0
              clear hY0
              cases RY
              · have kQ := kR
                go_wp2_with fail
                refine (hKN.out _ (hT.out _ kQ.out)).mono ?_
                rintro e Z9 ⟨rfl, jZ⟩
                go_wp2_with fail
                go_ret
                exact ⟨rfl, kQ.out.trans jZ (by simp)⟩
              · have rx := oxR.out.rd
                have ry := oyR.out.rd
                have szR := kR.out.size
                go_wp2_with (first
                  | (at_builtin; refine wpList_appW ?_ (by rfl) elCell rfl rfl oz1 rfl ry3 (cellsV_one _) (by omega) (by omega); intro az2 cz2 Z4 oz2 kz2 hz2)
                  | (at_builtin; refine wpList_appW ?_ (by rfl) elCell rfl rfl (Own.nil Z2 w.heap.size 30 16) rfl rx (cellsV_one _) (by omega) (by omega); intro az1 cz1 Z3 oz1 kz1' hz1; rw [List.nil_append, Nat.zero_add] at oz1; (try rw [Nat.zero_add]); have kz1 : Kept [] Z2 Z3 := kz1'; have ry3 := ry.kept kz1 (by simp); have sz1 := kz1.size))
                have kS : Kept [] w Z4 := ((kR.out.trans kz1 (by simp)).trans kz2 (fun z hz => .inr (oz1.ge z hz).1))
                have oz3 : Rd Z4 az2 (k + n2) 16 (cellsV (fixI la ++ fixI lb)) := by
                  have h := oz2.rd
                  rw [← cellsV_app] at h
                  exact h
                refine (row_ask (fixI la ++ fixI lb) true (hXYh.out hX.out hY.out) az2 _ cz2 Z4 (hT.out _ kS) oz3 (by omega)).mono ?_
                rintro e Z5 ⟨rfl, jz⟩
                have kQ := hide (kS.trans jz (by simp))
                clear jz kS oz3 kz1' kz2 hz1 hz2 oz1 oz2 kz1 ry3 rx ry
                go_wp2_with fail
                refine (hKN.out _ (hT.out _ kQ.out)).mono ?_
                rintro e Z9 ⟨rfl, jZ⟩
                go_wp2_with fail
                go_ret
                exact ⟨rfl, kQ.out.trans jZ (by simp)⟩
          · skip
            go_wp2_with fail
            refine ((Same_any ax k cx (fixI la) a k cp la _ oxY2.out.rd (hA.out.kept kY2.out (by simp)) (by omega)).mono (fun e w' h => (⟨h.1.trans (by rw [row_fix la hRA.out]; simp), h.2⟩ : e = .returned (.bool true) ∧ Kept [] _ w'))).mono ?_
            rintro e Y3 ⟨rfl, jy⟩
            have kY3 := hide (kY2.out.trans jy (by simp))
            have oxY3 := hide (oxY2.out.kept jy (by simp))
            have oyY3 := hide (oyY2.out.kept jy (by simp))
            clear jy kY2 oxY2 oyY2

            go_wp2_with fail
            refine (Fix_any ax k cx (fixI la) _ oxY3.out.rd (by omega)).mono ?_
            rintro e Y4 ⟨aw, cw, rfl, ow', jy⟩
            rw [fix_fix] at ow'
            have kY4 := hide (kY3.out.trans jy (by simp))
            have oxY4 := hide (oxY3.out.kept jy (by simp))
            have oyY4 := hide (oyY3.out.kept jy (by simp))
            have ow4 := hide ow'
            clear jy kY3 oxY3 oyY3 ow'
            go_wp2_with fail
            refine (same_true aw k cw (fixI la) ax k cx _ ow4.out.rd oxY4.out.rd (by omega)).mono ?_
            rintro e Y5 ⟨rfl, jy⟩
            have kP := hide (kY4.out.trans jy (by simp))
            have oxP := hide (oxY4.out.kept jy (by simp))
            have oyP := hide (oyY4.out.kept jy (by simp))
            have hnn : ((k : Int) != (k : Int)) = false := by simp
            clear jy kY4 oxY4 oyY4 ow4

            go_wp2_with fail
            refine (row_ask (fixI la) _ rfl ax k cx _ (hT.out _ kP.out) oxP.out.rd (by omega)).mono ?_
            rintro e Z1 ⟨rfl, jz⟩
            have kQ := hide (kP.out.trans jz (by simp))
            have oxQ := hide (oxP.out.kept jz (by simp))
            have oyQ := hide (oyP.out.kept jz (by simp))
            clear jz kP oxP oyP
            have hXYh := hide (row_app (fixI la) (fixI lb) zeroK)
            generalize hX0 : rowI (fixI la) = RX
            have hX := hide hX0
            clear hX0
            cases RX
            · skip
              go_wp2_with fail
              refine (hKN.out _ (hT.out _ kQ.out)).mono ?_
              rintro e Z9 ⟨rfl, jZ⟩
              go_wp2_with fail
              go_ret
              exact ⟨rfl, kQ.out.trans jZ (by simp)⟩
            · skip

              go_wp2_with fail
              refine (row_ask (fixI lb) _ rfl ay n2 cy _ (hT.out _ kQ.out) oyQ.out.rd (by omega)).mono ?_
              rintro e Z2 ⟨rfl, jz⟩
              have kR := hide (kQ.out.trans jz (by simp))
              have oxR := hide (oxQ.out.kept jz (by simp))
              have oyR := hide (oyQ.out.kept jz (by simp))
              clear jz kQ oxQ oyQ
              generalize hY0 : rowI (fixI lb) = RY
              have hY := hide hY0
              clear hY0
              cases RY
              · have kQ := kR
                go_wp2_with fail
                refine (hKN.out _ (hT.out _ kQ.out)).mono ?_
                rintro e Z9 ⟨rfl, jZ⟩
                go_wp2_with fail
                go_ret
                exact ⟨rfl, kQ.out.trans jZ (by simp)⟩
              · have rx := oxR.out.rd
                have ry := oyR.out.rd
                have szR := kR.out.size
                go_wp2_with (first
                  | (at_builtin; refine wpList_appW ?_ (by rfl) elCell rfl rfl oz1 rfl ry3 (cellsV_one _) (by omega) (by omega); intro az2 cz2 Z4 oz2 kz2 hz2)
                  | (at_builtin; refine wpList_appW ?_ (by rfl) elCell rfl rfl (Own.nil Z2 w.heap.size 30 16) rfl rx (cellsV_one _) (by omega) (by omega); intro az1 cz1 Z3 oz1 kz1' hz1; rw [List.nil_append, Nat.zero_add] at oz1; (try rw [Nat.zero_add]); have kz1 : Kept [] Z2 Z3 := kz1'; have ry3 := ry.kept kz1 (by simp); have sz1 := kz1.size))
                have kS : Kept [] w Z4 := ((kR.out.trans kz1 (by simp)).trans kz2 (fun z hz => .inr (oz1.ge z hz).1))
                have oz3 : Rd Z4 az2 (k + n2) 16 (cellsV (fixI la ++ fixI lb)) := by
                  have h := oz2.rd
                  rw [← cellsV_app] at h
                  exact h
                refine (row_ask (fixI la ++ fixI lb) true (hXYh.out hX.out hY.out) az2 _ cz2 Z4 (hT.out _ kS) oz3 (by omega)).mono ?_
                rintro e Z5 ⟨rfl, jz⟩
                have kQ := hide (kS.trans jz (by simp))
                clear jz kS oz3 kz1' kz2 hz1 hz2 oz1 oz2 kz1 ry3 rx ry
                go_wp2_with fail
                refine (hKN.out _ (hT.out _ kQ.out)).mono ?_
                rintro e Z9 ⟨rfl, jZ⟩
                go_wp2_with fail
                go_ret
                exact ⟨rfl, kQ.out.trans jZ (by simp)⟩
        · have hVal : Hid (∀ c ∈ la, validC c = true) := hide (hVal0.out rfl)
          clear hv0 hVal0
          go_wp2_with fail
          refine (row_ask (fixI la) true (fix_row la hVal.out) ax k cx _ (hT.out _ kY.out) oxY.out.rd (by omega)).mono ?_
          rintro e Y1 ⟨rfl, jy⟩
          have kY := hide (kY.out.trans jy (by simp))
          have oxY := hide (oxY.out.kept jy (by simp))
          have oyY := hide (oyY.out.kept jy (by simp))
          clear jy

          go_wp2_with fail
          refine (row_ask la _ rfl a k cp _ (hT.out _ kY.out) (hA.out.kept kY.out (by simp)) (by omega)).mono ?_
          rintro e Y2 ⟨rfl, jy⟩
          have kY2 := hide (kY.out.trans jy (by simp))
          have oxY2 := hide (oxY.out.kept jy (by simp))
          have oyY2 := hide (oyY.out.kept jy (by simp))
          clear jy kY oxY oyY
          generalize hR0 : rowI la = RA
          have hRA := hide hR0
          clear hR0
          cases RA
          · skip
            have kY3 := kY2
            have oxY3 := oxY2
            have oyY3 := oyY2

            go_wp2_with fail
            refine (Fix_any ax k cx (fixI la) _ oxY3.out.rd (by omega)).mono ?_
            rintro e Y4 ⟨aw, cw, rfl, ow', jy⟩
            rw [fix_fix] at ow'
            have kY4 := hide (kY3.out.trans jy (by simp))
            have oxY4 := hide (oxY3.out.kept jy (by simp))
            have oyY4 := hide (oyY3.out.kept jy (by simp))
            have ow4 := hide ow'
            clear jy kY3 oxY3 oyY3 ow'
            go_wp2_with fail
            refine (same_true aw k cw (fixI la) ax k cx _ ow4.out.rd oxY4.out.rd (by omega)).mono ?_
            rintro e Y5 ⟨rfl, jy⟩
            have kP := hide (kY4.out.trans jy (by simp))
            have oxP := hide (oxY4.out.kept jy (by simp))
            have oyP := hide (oyY4.out.kept jy (by simp))
            have hnn : ((k : Int) != (k : Int)) = false := by simp
            clear jy kY4 oxY4 oyY4 ow4

            go_wp2_with fail
            refine (row_ask (fixI la) _ rfl ax k cx _ (hT.out _ kP.out) oxP.out.rd (by omega)).mono ?_
            rintro e Z1 ⟨rfl, jz⟩
            have kQ := hide (kP.out.trans jz (by simp))
            have oxQ := hide (oxP.out.kept jz (by simp))
            have oyQ := hide (oyP.out.kept jz (by simp))
            clear jz kP oxP oyP
            have hXYh := hide (row_app (fixI la) (fixI lb) zeroK)
            generalize hX0 : rowI (fixI la) = RX
            have hX := hide hX0
            clear hX0
            cases RX
            · skip
              go_wp2_with fail
              refine (hKN.out _ (hT.out _ kQ.out)).mono ?_
              rintro e Z9 ⟨rfl, jZ⟩
              go_wp2_with fail
              go_ret
              exact ⟨rfl, kQ.out.trans jZ (by simp)⟩
            · skip

              go_wp2_with fail
              refine (row_ask (fixI lb) _ rfl ay n2 cy _ (hT.out _ kQ.out) oyQ.out.rd (by omega)).mono ?_
              rintro e Z2 ⟨rfl, jz⟩
              have kR := hide (kQ.out.trans jz (by simp))
              have oxR := hide (oxQ.out.kept jz (by simp))
              have oyR := hide (oyQ.out.kept jz (by simp))
              clear jz kQ oxQ oyQ
              generalize hY0 : rowI (fixI lb) = RY
              have hY := hide hY0
              clear hY0
              cases RY
              · have kQ := kR
                go_wp2_with fail
                refine (hKN.out _ (hT.out _ kQ.out)).mono ?_
                rintro e Z9 ⟨rfl, jZ⟩
                go_wp2_with fail
                go_ret
                exact ⟨rfl, kQ.out.trans jZ (by simp)⟩
              · have rx := oxR.out.rd
                have ry := oyR.out.rd
                have szR := kR.out.size
                go_wp2_with (first
                  | (at_builtin; refine wpList_appW ?_ (by rfl) elCell rfl rfl oz1 rfl ry3 (cellsV_one _) (by omega) (by omega); intro az2 cz2 Z4 oz2 kz2 hz2)
                  | (at_builtin; refine wpList_appW ?_ (by rfl) elCell rfl rfl (Own.nil Z2 w.heap.size 30 16) rfl rx (cellsV_one _) (by omega) (by omega); intro az1 cz1 Z3 oz1 kz1' hz1; rw [List.nil_append, Nat.zero_add] at oz1; (try rw [Nat.zero_add]); have kz1 : Kept [] Z2 Z3 := kz1'; have ry3 := ry.kept kz1 (by simp); have sz1 := kz1.size))
                have kS : Kept [] w Z4 := ((kR.out.trans kz1 (by simp)).trans kz2 (fun z hz => .inr (oz1.ge z hz).1))
                have oz3 : Rd Z4 az2 (k + n2) 16 (cellsV (fixI la ++ fixI lb)) := by
                  have h := oz2.rd
                  rw [← cellsV_app] at h
                  exact h
                refine (row_ask (fixI la ++ fixI lb) true (hXYh.out hX.out hY.out) az2 _ cz2 Z4 (hT.out _ kS) oz3 (by omega)).mono ?_
                rintro e Z5 ⟨rfl, jz⟩
                have kQ := hide (kS.trans jz (by simp))
                clear jz kS oz3 kz1' kz2 hz1 hz2 oz1 oz2 kz1 ry3 rx ry
                go_wp2_with fail
                refine (hKN.out _ (hT.out _ kQ.out)).mono ?_
                rintro e Z9 ⟨rfl, jZ⟩
                go_wp2_with fail
                go_ret
                exact ⟨rfl, kQ.out.trans jZ (by simp)⟩
          · skip
            go_wp2_with fail
            refine ((Same_any ax k cx (fixI la) a k cp la _ oxY2.out.rd (hA.out.kept kY2.out (by simp)) (by omega)).mono (fun e w' h => (⟨h.1.trans (by rw [row_fix la hRA.out]; simp), h.2⟩ : e = .returned (.bool true) ∧ Kept [] _ w'))).mono ?_
            rintro e Y3 ⟨rfl, jy⟩
            have kY3 := hide (kY2.out.trans jy (by simp))
            have oxY3 := hide (oxY2.out.kept jy (by simp))
            have oyY3 := hide (oyY2.out.kept jy (by simp))
            clear jy kY2 oxY2 oyY2

            go_wp2_with fail
            refine (Fix_any ax k cx (fixI la) _ oxY3.out.rd (by omega)).mono ?_
            rintro e Y4 ⟨aw, cw, rfl, ow', jy⟩
            rw [fix_fix] at ow'
            have kY4 := hide (kY3.out.trans jy (by simp))
            have oxY4 := hide (oxY3.out.kept jy (by simp))
            have oyY4 := hide (oyY3.out.kept jy (by simp))
            have ow4 := hide ow'
            clear jy kY3 oxY3 oyY3 ow'
            go_wp2_with fail
            refine (same_true aw k cw (fixI la) ax k cx _ ow4.out.rd oxY4.out.rd (by omega)).mono ?_
            rintro e Y5 ⟨rfl, jy⟩
            have kP := hide (kY4.out.trans jy (by simp))
            have oxP := hide (oxY4.out.kept jy (by simp))
            have oyP := hide (oyY4.out.kept jy (by simp))
            have hnn : ((k : Int) != (k : Int)) = false := by simp
            clear jy kY4 oxY4 oyY4 ow4

            go_wp2_with fail
            refine (row_ask (fixI la) _ rfl ax k cx _ (hT.out _ kP.out) oxP.out.rd (by omega)).mono ?_
            rintro e Z1 ⟨rfl, jz⟩
            have kQ := hide (kP.out.trans jz (by simp))
            have oxQ := hide (oxP.out.kept jz (by simp))
            have oyQ := hide (oyP.out.kept jz (by simp))
            clear jz kP oxP oyP
            have hXYh := hide (row_app (fixI la) (fixI lb) zeroK)
            generalize hX0 : rowI (fixI la) = RX
            have hX := hide hX0
            clear hX0
            cases RX
            · skip
              go_wp2_with fail
              refine (hKN.out _ (hT.out _ kQ.out)).mono ?_
              rintro e Z9 ⟨rfl, jZ⟩
              go_wp2_with fail
              go_ret
              exact ⟨rfl, kQ.out.trans jZ (by simp)⟩
            · skip

              go_wp2_with fail
              refine (row_ask (fixI lb) _ rfl ay n2 cy _ (hT.out _ kQ.out) oyQ.out.rd (by omega)).mono ?_
              rintro e Z2 ⟨rfl, jz⟩
              have kR := hide (kQ.out.trans jz (by simp))
              have oxR := hide (oxQ.out.kept jz (by simp))
              have oyR := hide (oyQ.out.kept jz (by simp))
              clear jz kQ oxQ oyQ
              generalize hY0 : rowI (fixI lb) = RY
              have hY := hide hY0
              clear hY0
              cases RY
              · have kQ := kR
                go_wp2_with fail
                refine (hKN.out _ (hT.out _ kQ.out)).mono ?_
                rintro e Z9 ⟨rfl, jZ⟩
                go_wp2_with fail
                go_ret
                exact ⟨rfl, kQ.out.trans jZ (by simp)⟩
              · have rx := oxR.out.rd
                have ry := oyR.out.rd
                have szR := kR.out.size
                go_wp2_with (first
                  | (at_builtin; refine wpList_appW ?_ (by rfl) elCell rfl rfl oz1 rfl ry3 (cellsV_one _) (by omega) (by omega); intro az2 cz2 Z4 oz2 kz2 hz2)
                  | (at_builtin; refine wpList_appW ?_ (by rfl) elCell rfl rfl (Own.nil Z2 w.heap.size 30 16) rfl rx (cellsV_one _) (by omega) (by omega); intro az1 cz1 Z3 oz1 kz1' hz1; rw [List.nil_append, Nat.zero_add] at oz1; (try rw [Nat.zero_add]); have kz1 : Kept [] Z2 Z3 := kz1'; have ry3 := ry.kept kz1 (by simp); have sz1 := kz1.size))
                have kS : Kept [] w Z4 := ((kR.out.trans kz1 (by simp)).trans kz2 (fun z hz => .inr (oz1.ge z hz).1))
                have oz3 : Rd Z4 az2 (k + n2) 16 (cellsV (fixI la ++ fixI lb)) := by
                  have h := oz2.rd
                  rw [← cellsV_app] at h
                  exact h
                refine (row_ask (fixI la ++ fixI lb) true (hXYh.out hX.out hY.out) az2 _ cz2 Z4 (hT.out _ kS) oz3 (by omega)).mono ?_
                rintro e Z5 ⟨rfl, jz⟩
                have kQ := hide (kS.trans jz (by simp))
                clear jz kS oz3 kz1' kz2 hz1 hz2 oz1 oz2 kz1 ry3 rx ry
                go_wp2_with fail
                refine (hKN.out _ (hT.out _ kQ.out)).mono ?_
                rintro e Z9 ⟨rfl, jZ⟩
                go_wp2_with fail
                go_ret
                exact ⟨rfl, kQ.out.trans jZ (by simp)⟩
end Go.Proofs.YtigaijigdellpaaDoor
