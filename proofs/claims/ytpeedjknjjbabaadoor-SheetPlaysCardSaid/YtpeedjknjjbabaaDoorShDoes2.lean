/- The ways of the law's helper does. -/
import Derived.Test.YtpeedjknjjbabaaDoorShDoes
namespace Go.Proofs.YtpeedjknjjbabaaDoor
open Go.RowKit
set_option linter.unusedVariables false
set_option linter.unusedSimpArgs false
set_option maxRecDepth 100000

set_option maxHeartbeats 8000000 in
theorem doesPush (w0 w : World) (b : Nat) (s : Sh) (B : List Nat) (a : Option Addr) (n c : Nat) (vs : List LnA) (h : Hs w0 w b s B a n c vs s.ls) (hw2 : 2 ≤ w0.heap.size) (u : AcA) (l : List Cl) (hr : Rd w u.a u.n 16 (cellsV l)) (hun : u.n ≤ 20) (hwh : u.wh = 0) :
    Calls Tryd.prog 11 #[.pointer (some ⟨b, 0, none⟩), .agg #[.int .i64 (s.places : Nat), .int .i64 (s.gone : Nat), .slice a n c], .agg #[.int .i64 u.wh, .int .i64 u.nm, .slice u.a u.n u.c, .bool u.s]] w (DoesRet w0 w B a n vs) := by
  obtain ⟨W0, hW0⟩ : ∃ z : World, z = ((w.alloc (.cells #[.int .i64 (s.places : Nat), .int .i64 (s.gone : Nat), .slice a n c] 32)).alloc (.cells #[.int .i64 u.wh, .int .i64 u.nm, .slice u.a u.n u.c, .bool u.s] 37)).alloc (.cells #[.int .i64 0, .int .i64 0, .slice none 0 0] 32) := ⟨_, rfl⟩
  have hk0 : Kept [] w W0 := by rw [hW0]; exact (((Kept.refl [] w).alloc _).alloc _).alloc _
  have hbs : Hid (ShIn W0 w.heap.size s.places s.gone a n c) := hide (by rw [hW0]; exact (ShIn.new w s.places s.gone a n c).kept (((Kept.refl [] _).alloc _).alloc _) (by simp))
  have hba : Hid (AcIn W0 (w.heap.size + 1) u) := hide (by rw [hW0]; exact AcIn.kept (heap_new_at (by simp)) ((Kept.refl [] _).alloc _) (by simp))
  have hbz : Hid (ShIn W0 (w.heap.size + 1 + 1) 0 0 none 0 0) := hide (by rw [hW0]; exact heap_new_at (by simp))
  have hs0 : w.heap.size + 1 + 1 < W0.heap.size := hbz.out.lt
  have hH := hide h
  have hR := hide (hr.kept hk0 (by simp))
  have hBlt := hide (PG.lt _ _ _ _ h.pg)
  have hNlt := hide h.rd.ltN
  have hVlt := hide h.rd.at'.lt
  have hok := hide (PG.ok _ _ _ _ h.pg)
  have hll := hide h.rd.len
  have hw0s := hide h.kp.size
  have hgn := hide (show s.gone + n ≤ s.places by have h1 := hok.out.1.1; have h2 := hll.out; omega)
  have hp1 := hide (show s.places ≤ 100000 by have h1 := hok.out.2.2; omega)
  clear h hr
  obtain ⟨r, hps⟩ : ∃ r, pushS s ⟨l, u.s⟩ = r := ⟨_, rfl⟩
  replace hps := hide hps
  have e0 : (u.wh == 0) = true := by simp [hwh]
  replace hwh := hide hwh
  go_enter Tryd.func11, Tryd.ntmps11
  go_upto_region 1 with fail
  rw [← hW0]
  clear hW0
  obtain ⟨q0, q1, q2, q3⟩ := hba.out.at
  go_wp2_with fail
  refine (rCopy_any u.a u.n u.c u.s l W0 hR.out (by omega)).mono ?_
  rintro e w1 ⟨ao, no, co, rfl, hoo, hoa, hob, j1⟩
  have hno : no ≤ 1000 := by have h1 := hoo.rd.clen; have h2 := hR.out.clen; omega
  go_upto_region 2 with (refine wpList_store_lin rfl rfl rfl w1.heap.size rfl (LinIn.new w1 none 0 0 false) ao no co u.s rfl ?_; intro w2 hb9 j2)
  have hj2 : Kept [] w1 w2 := ((Kept.refl [] w1).alloc (.cells #[.slice none 0 0, .bool false] 35)).trans j2 (by simp)
  have hk2 : Kept [] W0 w2 := j1.trans hj2 (by simp)
  have hw12 := hide hb9.lt
  have ho2 := hide (hoo.kept hj2 (by simp))
  have hoge := hide (fun y (hy : y ∈ blk ao) => hoo.ge y hy)
  have hb9 := hide hb9
  have hs1 := hide j1.size
  clear q0 q1 q2 q3 hoo j2 hj2 j1
  obtain ⟨q0, q1, q2, q3⟩ := (hba.out.kept hk2 (by simp)).at
  obtain ⟨p0, p1, p2⟩ := (hbs.out.kept hk2 (by simp)).at
  have hRL := hH.out.keep (hk0.trans hk2 (by simp))
  go_wp2_with fail
  refine ((show Calls _ _ _ _ (ShGive w2 a n vs r) from hps.out ▸ rPush_any s.places s.gone a n c vs s.ls u.a u.n u.c ⟨l, u.s⟩ w2 hRL.rd hRL.nc hRL.cm (hR.out.kept hk2 (by simp)) hp1.out hgn.out)).mono ?_
  rintro e w3 ⟨a3, n3, c3, vs3, rfl, hg1, hg2, hg3, j3, hg4, hg5⟩
  clear p0 p1 p2 q0 q1 q2 q3
  go_upto_region 5 with (refine wpList_store_sh rfl rfl rfl w3.heap.size rfl (ShIn.new w3 0 0 none 0 0) r.1.places r.1.gone a3 n3 c3 rfl ?_; intro w4 hb10 j4)
  have hj4 : Kept [] w3 w4 := ((Kept.refl [] w3).alloc (.cells #[.int .i64 0, .int .i64 0, .slice none 0 0] 32)).trans j4 (by simp)
  have hk24 : Kept [] w2 w4 := j3.trans hj4 (by simp)
  have hk4 := hk2.trans hk24 (by simp)
  have hs4 := hide hb10.lt
  have hs34 := hide j3.size
  have hH4 := hide ((hRL.given hg1 hg2 hg3 j3 hg4 hg5).keep hj4)
  have hg4 := hide hg4
  have hg5 := hide hg5
  have hb10 := hide hb10
  have hs2 := hide hk2.size
  clear hRL hg1 hg2 hg3 j3 j4 hj4
  have ho4 := ho2.out.kept hk24 (by simp)
  have hoB : ∀ y ∈ blk ao, y ∉ B := fun y hy hm => by have h1 := hBlt.out y hm; have h3 := (hoge.out y hy).1; omega
  obtain ⟨p0, p1⟩ := (hb9.out.kept hk24 (by simp)).at
  go_wp2_with fail
  refine (hH4.out.push (s' := r.1) hw2 ao no co ⟨l, u.s⟩ ho4.rd r.2 hps.out).mono ?_
  rintro e w5 ⟨rfl, B5, hH5, k5, hB5⟩
  have hb95 := (hb9.out.kept hk24 (by simp)).kept k5 (fun hm => by have := hBlt.out _ hm; have := hs1.out; omega)
  have ho5 := ho4.kept k5 hoB
  clear p0 p1
  obtain ⟨p0, p1⟩ := hb95.at
  go_wp2_with fail
  refine (Stain_any ao no co W0.heap.size l w5 ho5 hno).mono ?_
  rintro e w6 ⟨rfl, j6⟩
  have hH6 := hide (hH5.keepS hw2 j6 (fun y hy => by have := (hoge.out y hy).1; have := hw0s.out; omega) (fun y hy hm => by have h1 := hoge.out y hm; have h3 := hw12.out; have h4 := hk24.size; exact (hB5 y hy).elim (fun h => hoB y hm h) (fun h => by omega)) (fun y hy hm => by have h1 := hoge.out y hm; have h3 := hw12.out; exact (hg4.out y hy).elim (fun h => by have := hNlt.out y h; omega) (fun h => by omega)) (fun y hy hm => by have h1 := hoge.out y hm; have h3 := hw12.out; exact (hg5.out y hy).elim (fun h => by have := hVlt.out y h; omega) (fun h => by omega)))
  have hk46 : Kept (B ++ blk ao) w4 w6 := (k5.mono (fun y hy => .inl (List.mem_append_left _ hy))).trans j6 (fun y hy => .inl (List.mem_append_right _ hy))
  have h10S : w3.heap.size ∉ B ++ blk ao := fun hm => by have h4 := hs34.out; have h5 := hs2.out; have h6 := hw12.out; rcases List.mem_append.1 hm with hm | hm; have := hBlt.out _ hm; omega; have := (hoge.out _ hm).2; omega
  have hzS : w.heap.size + 1 + 1 ∉ B ++ blk ao := fun hm => by rcases List.mem_append.1 hm with hm | hm; have := hBlt.out _ hm; omega; have := (hoge.out _ hm).1; omega
  have hb106 := hide (hb10.out.kept hk46 h10S)
  have hbz6 := hide ((hbz.out.kept hk4 (by simp)).kept hk46 hzS)
  clear p0 p1
  go_upto_region 7 with fail
  have hk7z : Kept [] w w4 := hk0.trans hk4 (by simp)
  have hk7 : Kept B w w6 := (hk7z.mono (by simp)).trans hk46 (fun y hy => by rcases List.mem_append.1 hy with hy | hy; exact .inl hy; exact .inr (by have := (hoge.out y hy).1; have := hk0.size; omega))
  have hne : w3.heap.size ≠ w.heap.size + 1 + 1 := by have := hs2.out; have := hs34.out; omega
  refine wp_region_held_drew (S := (fun W => ShIn W (w3.heap.size) r.1.places r.1.gone a3 n3 c3)) (by kernel_rfl) ?_ (fun hHeld => ?_)
  · (try dsimp only); (first | exact hS9 | exact hb106.out.kept (Kept.refl [] w6).drew (by simp))
  refine wpAnyH_take (i := 0) (v := ?_) rfl (by kernel_rfl) (by kernel_rfl) (by kernel_rfl) (fun _ _ _ h => h) (Or.inl ⟨by rfl, ?_⟩) (by assumption) ?_
  rotate_left
  · (intro wq hSw; (try dsimp only at hSw); go_simp; try with_reducible rfl)
  try simp only [Act.put, List.getElem_toArray, List.getElem_cons_zero, List.setIfInBounds_toArray, List.set_cons_zero, List.set_cons_succ]
  refine wpAnyH_take (i := 1) (v := (.agg #[.int .i64 r.1.places, .int .i64 r.1.gone, .slice a3 n3 c3])) rfl (by kernel_rfl) (by kernel_rfl) (by kernel_rfl) (fun _ _ _ h => h) (yieldsIf_load_mid (by rfl) 32 _ rfl (w3.heap.size) 0 rfl (shL r.1.places r.1.gone a3 n3 c3) _ (fun _ h => h.range) Tryd.underlying32 rfl (by kernel_rfl)) (by assumption) ?_
  try simp only [Act.put, List.getElem_toArray, List.getElem_cons_succ, List.getElem_cons_zero, List.setIfInBounds_toArray, List.set_cons_zero, List.set_cons_succ]
  refine wpAnyH_take (i := 2) (v := ?_) rfl (by kernel_rfl) (by kernel_rfl) (by kernel_rfl) (fun _ _ _ h => h) (Or.inl ⟨by rfl, ?_⟩) (by assumption) ?_
  rotate_left
  · (intro wq hSw; (try dsimp only at hSw); go_simp; try with_reducible rfl)
  try simp only [Act.put, List.getElem_toArray, List.getElem_cons_succ, List.getElem_cons_zero, List.setIfInBounds_toArray, List.set_cons_zero, List.set_cons_succ]
  refine wpAnyH_take (i := 3) (v := ?_) rfl (by kernel_rfl) (by kernel_rfl) (by kernel_rfl) (fun _ _ _ h => h) (Or.inl ⟨by rfl, ?_⟩) (by assumption) ?_
  rotate_left
  · (intro wq hSw; (try dsimp only at hSw); go_simp; try with_reducible rfl)
  try simp only [Act.put, List.getElem_toArray, List.getElem_cons_succ, List.getElem_cons_zero, List.setIfInBounds_toArray, List.set_cons_zero, List.set_cons_succ]
  refine wpAnyH_take (i := 4) (v := ?_) rfl (by kernel_rfl) (by kernel_rfl) (by kernel_rfl) (fun _ _ _ h => h) (Or.inl ⟨by rfl, ?_⟩) (by assumption) ?_
  rotate_left
  · (intro wq hSw; (try dsimp only at hSw); go_simp; try with_reducible rfl)
  try simp only [Act.put, List.getElem_toArray, List.getElem_cons_succ, List.getElem_cons_zero, List.setIfInBounds_toArray, List.set_cons_zero, List.set_cons_succ]
  refine wpAnyH_take (i := 5) (v := ?_) rfl (by kernel_rfl) (by kernel_rfl) (by kernel_rfl) (fun _ _ _ h => h) (Or.inl ⟨by rfl, ?_⟩) (by assumption) ?_
  rotate_left
  · (intro wq hSw; (try dsimp only at hSw); go_simp; try with_reducible rfl)
  try simp only [Act.put, List.getElem_toArray, List.getElem_cons_succ, List.getElem_cons_zero, List.setIfInBounds_toArray, List.set_cons_zero, List.set_cons_succ]
  refine wpAnyH_ready (rs := [6]) (by kernel_rfl) (by simp) ?_
  refine AllReadyH.cons rfl (fun K hK => ?_) AllReadyH.nil
  rw [if_pos (by rfl)]
  refine wp_store_sh rfl rfl (w.heap.size + 1 + 1) rfl (hbz6.out.kept (Kept.refl [] w6).drew (by simp)) r.1.places r.1.gone a3 n3 c3 rfl ?_; intro w9 hb99 j9; have hS9 := (hb106.out.kept (Kept.refl [] w6).drew (by simp)).kept j9 (by simpa using hne)
  refine hK.out _ _ ?_ (fun hHeld => ?_)
  · (try dsimp only); (first | exact hS9 | exact hb106.out.kept (Kept.refl [] w6).drew (by simp))
  clear hK K
  try simp only [Act.put, List.getElem_toArray, List.getElem_cons_succ, List.getElem_cons_zero, List.setIfInBounds_toArray, List.set_cons_zero, List.set_cons_succ]
  refine wpAnyH_take (i := 7) (v := ?_) rfl (by kernel_rfl) (by kernel_rfl) (by kernel_rfl) (fun _ _ _ h => h) (Or.inl ⟨by rfl, ?_⟩) (by assumption) ?_
  rotate_left
  · (intro wq hSw; (try dsimp only at hSw); go_simp; try with_reducible rfl)
  try simp only [Act.put, List.getElem_toArray, List.getElem_cons_succ, List.getElem_cons_zero, List.setIfInBounds_toArray, List.set_cons_zero, List.set_cons_succ]
  refine wpAnyH_done (by kernel_rfl) ?_ _
  have hzB : w.heap.size + 1 + 1 ∉ B5 := fun hm => (hB5 _ hm).elim (fun h => by have := hBlt.out _ h; omega) (fun h => by have := hk4.size; omega)
  have hzN : w.heap.size + 1 + 1 ∉ blkN a3 n3 := fun hm => (hg4.out _ hm).elim (fun h => by have := hNlt.out _ h; omega) (fun h => by have := hs2.out; omega)
  have hzV : w.heap.size + 1 + 1 ∉ blks vs3 := fun hm => (hg5.out _ hm).elim (fun h => by have := hVlt.out _ h; omega) (fun h => by have := hs2.out; omega)
  go_wp2_with fail
  refine bodyPost_ret (results_does rfl rfl hb99 rfl rfl) rfl ?_
  have hk69 : Kept [w.heap.size + 1 + 1] w6 w9 := (((Kept.refl [] w6).drew).mono (by simp)).trans j9 (fun y hy => .inl hy)
  have hn6 := hH6.out
  have hH9 := hn6.keepS hw2 hk69 (fun y hy => by simp at hy; have := hw0s.out; omega) (fun y hy hm => by simp at hm; subst hm; exact hzB hy) (fun y hy hm => by simp at hm; subst hm; exact hzN hy) (fun y hy hm => by simp at hm; subst hm; exact hzV hy)
  refine ⟨b, r.1, B5, a3, n3, c3, vs3, rfl, hH9, hk7.trans hk69 (fun y hy => .inr (by simp at hy; omega)), fun y hy => (hB5 y hy).imp id (fun h => by have := hk4.size; have := hk0.size; omega), fun y hy => (hg4.out y hy).imp id (fun h => by have := hs2.out; have := hk0.size; omega), fun y hy => (hg5.out y hy).imp id (fun h => by have := hs2.out; have := hk0.size; omega)⟩
set_option maxHeartbeats 8000000 in
theorem doesSet (w0 w : World) (b : Nat) (s : Sh) (B : List Nat) (a : Option Addr) (n c : Nat) (vs : List LnA) (h : Hs w0 w b s B a n c vs s.ls) (hw2 : 2 ≤ w0.heap.size) (u : AcA) (l : List Cl) (hr : Rd w u.a u.n 16 (cellsV l)) (hun : u.n ≤ 20) (hwh : u.wh = 1) :
    Calls Tryd.prog 11 #[.pointer (some ⟨b, 0, none⟩), .agg #[.int .i64 (s.places : Nat), .int .i64 (s.gone : Nat), .slice a n c], .agg #[.int .i64 u.wh, .int .i64 u.nm, .slice u.a u.n u.c, .bool u.s]] w (DoesRet w0 w B a n vs) := by
  obtain ⟨W0, hW0⟩ : ∃ z : World, z = ((w.alloc (.cells #[.int .i64 (s.places : Nat), .int .i64 (s.gone : Nat), .slice a n c] 32)).alloc (.cells #[.int .i64 u.wh, .int .i64 u.nm, .slice u.a u.n u.c, .bool u.s] 37)).alloc (.cells #[.int .i64 0, .int .i64 0, .slice none 0 0] 32) := ⟨_, rfl⟩
  have hk0 : Kept [] w W0 := by rw [hW0]; exact (((Kept.refl [] w).alloc _).alloc _).alloc _
  have hbs : Hid (ShIn W0 w.heap.size s.places s.gone a n c) := hide (by rw [hW0]; exact (ShIn.new w s.places s.gone a n c).kept (((Kept.refl [] _).alloc _).alloc _) (by simp))
  have hba : Hid (AcIn W0 (w.heap.size + 1) u) := hide (by rw [hW0]; exact AcIn.kept (heap_new_at (by simp)) ((Kept.refl [] _).alloc _) (by simp))
  have hbz : Hid (ShIn W0 (w.heap.size + 1 + 1) 0 0 none 0 0) := hide (by rw [hW0]; exact heap_new_at (by simp))
  have hs0 : w.heap.size + 1 + 1 < W0.heap.size := hbz.out.lt
  have hH := hide h
  have hR := hide (hr.kept hk0 (by simp))
  have hBlt := hide (PG.lt _ _ _ _ h.pg)
  have hNlt := hide h.rd.ltN
  have hVlt := hide h.rd.at'.lt
  have hok := hide (PG.ok _ _ _ _ h.pg)
  have hll := hide h.rd.len
  have hw0s := hide h.kp.size
  have hgn := hide (show s.gone + n ≤ s.places by have h1 := hok.out.1.1; have h2 := hll.out; omega)
  have hp1 := hide (show s.places ≤ 100000 by have h1 := hok.out.2.2; omega)
  clear h hr
  obtain ⟨r, hps⟩ : ∃ r, setS s u.nm ⟨l, u.s⟩ = r := ⟨_, rfl⟩
  replace hps := hide hps
  have e0 : (u.wh == 0) = false := by simp [hwh]
  have e1 : (u.wh == 1) = true := by simp [hwh]
  replace hwh := hide hwh
  go_enter Tryd.func11, Tryd.ntmps11
  go_upto_region 1 with fail
  rw [← hW0]
  clear hW0
  obtain ⟨q0, q1, q2, q3⟩ := hba.out.at
  go_wp2_with fail
  refine (rCopy_any u.a u.n u.c u.s l W0 hR.out (by omega)).mono ?_
  rintro e w1 ⟨ao, no, co, rfl, hoo, hoa, hob, j1⟩
  have hno : no ≤ 1000 := by have h1 := hoo.rd.clen; have h2 := hR.out.clen; omega
  go_upto_region 2 with (refine wpList_store_lin rfl rfl rfl w1.heap.size rfl (LinIn.new w1 none 0 0 false) ao no co u.s rfl ?_; intro w2 hb9 j2)
  have hj2 : Kept [] w1 w2 := ((Kept.refl [] w1).alloc (.cells #[.slice none 0 0, .bool false] 35)).trans j2 (by simp)
  have hk2 : Kept [] W0 w2 := j1.trans hj2 (by simp)
  have hw12 := hide hb9.lt
  have ho2 := hide (hoo.kept hj2 (by simp))
  have hoge := hide (fun y (hy : y ∈ blk ao) => hoo.ge y hy)
  have hb9 := hide hb9
  have hs1 := hide j1.size
  clear q0 q1 q2 q3 hoo j2 hj2 j1
  obtain ⟨q0, q1, q2, q3⟩ := (hba.out.kept hk2 (by simp)).at
  obtain ⟨p0, p1, p2⟩ := (hbs.out.kept hk2 (by simp)).at
  have hRL := hH.out.keep (hk0.trans hk2 (by simp))
  go_wp2_with fail
  refine ((show Calls _ _ _ _ (ShGive w2 a n vs r) from hps.out ▸ rSet_any s.places s.gone a n c vs s.ls u.nm u.a u.n u.c ⟨l, u.s⟩ w2 hRL.rd hRL.nc hRL.cm (hR.out.kept hk2 (by simp)) (by have := hgn.out; have := hp1.out; omega))).mono ?_
  rintro e w3 ⟨a3, n3, c3, vs3, rfl, hg1, hg2, hg3, j3, hg4, hg5⟩
  clear p0 p1 p2 q0 q1 q2 q3
  go_upto_region 10 with (refine wpList_store_sh rfl rfl rfl w3.heap.size rfl (ShIn.new w3 0 0 none 0 0) r.1.places r.1.gone a3 n3 c3 rfl ?_; intro w4 hb10 j4)
  have hj4 : Kept [] w3 w4 := ((Kept.refl [] w3).alloc (.cells #[.int .i64 0, .int .i64 0, .slice none 0 0] 32)).trans j4 (by simp)
  have hk24 : Kept [] w2 w4 := j3.trans hj4 (by simp)
  have hk4 := hk2.trans hk24 (by simp)
  have hs4 := hide hb10.lt
  have hs34 := hide j3.size
  have hH4 := hide ((hRL.given hg1 hg2 hg3 j3 hg4 hg5).keep hj4)
  have hg4 := hide hg4
  have hg5 := hide hg5
  have hb10 := hide hb10
  have hs2 := hide hk2.size
  clear hRL hg1 hg2 hg3 j3 j4 hj4
  have ho4 := ho2.out.kept hk24 (by simp)
  have hoB : ∀ y ∈ blk ao, y ∉ B := fun y hy hm => by have h1 := hBlt.out y hm; have h3 := (hoge.out y hy).1; omega
  obtain ⟨p0, p1⟩ := (hb9.out.kept hk24 (by simp)).at
  obtain ⟨q0, q1, q2, q3⟩ := (hba.out.kept hk4 (by simp)).at
  go_wp2_with fail
  refine (hH4.out.set (s' := r.1) hw2 u.nm ao no co ⟨l, u.s⟩ ho4.rd r.2 hps.out).mono ?_
  rintro e w5 ⟨rfl, B5, hH5, k5, hB5⟩
  clear q0 q1 q2 q3
  have hb95 := (hb9.out.kept hk24 (by simp)).kept k5 (fun hm => by have := hBlt.out _ hm; have := hs1.out; omega)
  have ho5 := ho4.kept k5 hoB
  clear p0 p1
  obtain ⟨p0, p1⟩ := hb95.at
  go_wp2_with fail
  refine (Stain_any ao no co W0.heap.size l w5 ho5 hno).mono ?_
  rintro e w6 ⟨rfl, j6⟩
  have hH6 := hide (hH5.keepS hw2 j6 (fun y hy => by have := (hoge.out y hy).1; have := hw0s.out; omega) (fun y hy hm => by have h1 := hoge.out y hm; have h3 := hw12.out; have h4 := hk24.size; exact (hB5 y hy).elim (fun h => hoB y hm h) (fun h => by omega)) (fun y hy hm => by have h1 := hoge.out y hm; have h3 := hw12.out; exact (hg4.out y hy).elim (fun h => by have := hNlt.out y h; omega) (fun h => by omega)) (fun y hy hm => by have h1 := hoge.out y hm; have h3 := hw12.out; exact (hg5.out y hy).elim (fun h => by have := hVlt.out y h; omega) (fun h => by omega)))
  have hk46 : Kept (B ++ blk ao) w4 w6 := (k5.mono (fun y hy => .inl (List.mem_append_left _ hy))).trans j6 (fun y hy => .inl (List.mem_append_right _ hy))
  have h10S : w3.heap.size ∉ B ++ blk ao := fun hm => by have h4 := hs34.out; have h5 := hs2.out; have h6 := hw12.out; rcases List.mem_append.1 hm with hm | hm; have := hBlt.out _ hm; omega; have := (hoge.out _ hm).2; omega
  have hzS : w.heap.size + 1 + 1 ∉ B ++ blk ao := fun hm => by rcases List.mem_append.1 hm with hm | hm; have := hBlt.out _ hm; omega; have := (hoge.out _ hm).1; omega
  have hb106 := hide (hb10.out.kept hk46 h10S)
  have hbz6 := hide ((hbz.out.kept hk4 (by simp)).kept hk46 hzS)
  clear p0 p1
  go_upto_region 12 with fail
  have hk7z : Kept [] w w4 := hk0.trans hk4 (by simp)
  have hk7 : Kept B w w6 := (hk7z.mono (by simp)).trans hk46 (fun y hy => by rcases List.mem_append.1 hy with hy | hy; exact .inl hy; exact .inr (by have := (hoge.out y hy).1; have := hk0.size; omega))
  have hne : w3.heap.size ≠ w.heap.size + 1 + 1 := by have := hs2.out; have := hs34.out; omega
  refine wp_region_held_drew (S := (fun W => ShIn W (w3.heap.size) r.1.places r.1.gone a3 n3 c3)) (by kernel_rfl) ?_ (fun hHeld => ?_)
  · (try dsimp only); (first | exact hS9 | exact hb106.out.kept (Kept.refl [] w6).drew (by simp))
  refine wpAnyH_take (i := 0) (v := ?_) rfl (by kernel_rfl) (by kernel_rfl) (by kernel_rfl) (fun _ _ _ h => h) (Or.inl ⟨by rfl, ?_⟩) (by assumption) ?_
  rotate_left
  · (intro wq hSw; (try dsimp only at hSw); go_simp; try with_reducible rfl)
  try simp only [Act.put, List.getElem_toArray, List.getElem_cons_zero, List.setIfInBounds_toArray, List.set_cons_zero, List.set_cons_succ]
  refine wpAnyH_take (i := 1) (v := (.agg #[.int .i64 r.1.places, .int .i64 r.1.gone, .slice a3 n3 c3])) rfl (by kernel_rfl) (by kernel_rfl) (by kernel_rfl) (fun _ _ _ h => h) (yieldsIf_load_mid (by rfl) 32 _ rfl (w3.heap.size) 0 rfl (shL r.1.places r.1.gone a3 n3 c3) _ (fun _ h => h.range) Tryd.underlying32 rfl (by kernel_rfl)) (by assumption) ?_
  try simp only [Act.put, List.getElem_toArray, List.getElem_cons_succ, List.getElem_cons_zero, List.setIfInBounds_toArray, List.set_cons_zero, List.set_cons_succ]
  refine wpAnyH_take (i := 2) (v := ?_) rfl (by kernel_rfl) (by kernel_rfl) (by kernel_rfl) (fun _ _ _ h => h) (Or.inl ⟨by rfl, ?_⟩) (by assumption) ?_
  rotate_left
  · (intro wq hSw; (try dsimp only at hSw); go_simp; try with_reducible rfl)
  try simp only [Act.put, List.getElem_toArray, List.getElem_cons_succ, List.getElem_cons_zero, List.setIfInBounds_toArray, List.set_cons_zero, List.set_cons_succ]
  refine wpAnyH_take (i := 3) (v := ?_) rfl (by kernel_rfl) (by kernel_rfl) (by kernel_rfl) (fun _ _ _ h => h) (Or.inl ⟨by rfl, ?_⟩) (by assumption) ?_
  rotate_left
  · (intro wq hSw; (try dsimp only at hSw); go_simp; try with_reducible rfl)
  try simp only [Act.put, List.getElem_toArray, List.getElem_cons_succ, List.getElem_cons_zero, List.setIfInBounds_toArray, List.set_cons_zero, List.set_cons_succ]
  refine wpAnyH_take (i := 4) (v := ?_) rfl (by kernel_rfl) (by kernel_rfl) (by kernel_rfl) (fun _ _ _ h => h) (Or.inl ⟨by rfl, ?_⟩) (by assumption) ?_
  rotate_left
  · (intro wq hSw; (try dsimp only at hSw); go_simp; try with_reducible rfl)
  try simp only [Act.put, List.getElem_toArray, List.getElem_cons_succ, List.getElem_cons_zero, List.setIfInBounds_toArray, List.set_cons_zero, List.set_cons_succ]
  refine wpAnyH_take (i := 5) (v := ?_) rfl (by kernel_rfl) (by kernel_rfl) (by kernel_rfl) (fun _ _ _ h => h) (Or.inl ⟨by rfl, ?_⟩) (by assumption) ?_
  rotate_left
  · (intro wq hSw; (try dsimp only at hSw); go_simp; try with_reducible rfl)
  try simp only [Act.put, List.getElem_toArray, List.getElem_cons_succ, List.getElem_cons_zero, List.setIfInBounds_toArray, List.set_cons_zero, List.set_cons_succ]
  refine wpAnyH_ready (rs := [6]) (by kernel_rfl) (by simp) ?_
  refine AllReadyH.cons rfl (fun K hK => ?_) AllReadyH.nil
  rw [if_pos (by rfl)]
  refine wp_store_sh rfl rfl (w.heap.size + 1 + 1) rfl (hbz6.out.kept (Kept.refl [] w6).drew (by simp)) r.1.places r.1.gone a3 n3 c3 rfl ?_; intro w9 hb99 j9; have hS9 := (hb106.out.kept (Kept.refl [] w6).drew (by simp)).kept j9 (by simpa using hne)
  refine hK.out _ _ ?_ (fun hHeld => ?_)
  · (try dsimp only); (first | exact hS9 | exact hb106.out.kept (Kept.refl [] w6).drew (by simp))
  clear hK K
  try simp only [Act.put, List.getElem_toArray, List.getElem_cons_succ, List.getElem_cons_zero, List.setIfInBounds_toArray, List.set_cons_zero, List.set_cons_succ]
  refine wpAnyH_take (i := 7) (v := ?_) rfl (by kernel_rfl) (by kernel_rfl) (by kernel_rfl) (fun _ _ _ h => h) (Or.inl ⟨by rfl, ?_⟩) (by assumption) ?_
  rotate_left
  · (intro wq hSw; (try dsimp only at hSw); go_simp; try with_reducible rfl)
  try simp only [Act.put, List.getElem_toArray, List.getElem_cons_succ, List.getElem_cons_zero, List.setIfInBounds_toArray, List.set_cons_zero, List.set_cons_succ]
  refine wpAnyH_done (by kernel_rfl) ?_ _
  have hzB : w.heap.size + 1 + 1 ∉ B5 := fun hm => (hB5 _ hm).elim (fun h => by have := hBlt.out _ h; omega) (fun h => by have := hk4.size; omega)
  have hzN : w.heap.size + 1 + 1 ∉ blkN a3 n3 := fun hm => (hg4.out _ hm).elim (fun h => by have := hNlt.out _ h; omega) (fun h => by have := hs2.out; omega)
  have hzV : w.heap.size + 1 + 1 ∉ blks vs3 := fun hm => (hg5.out _ hm).elim (fun h => by have := hVlt.out _ h; omega) (fun h => by have := hs2.out; omega)
  go_wp2_with fail
  refine bodyPost_ret (results_does rfl rfl hb99 rfl rfl) rfl ?_
  have hk69 : Kept [w.heap.size + 1 + 1] w6 w9 := (((Kept.refl [] w6).drew).mono (by simp)).trans j9 (fun y hy => .inl hy)
  have hn6 := hH6.out
  have hH9 := hn6.keepS hw2 hk69 (fun y hy => by simp at hy; have := hw0s.out; omega) (fun y hy hm => by simp at hm; subst hm; exact hzB hy) (fun y hy hm => by simp at hm; subst hm; exact hzN hy) (fun y hy hm => by simp at hm; subst hm; exact hzV hy)
  refine ⟨b, r.1, B5, a3, n3, c3, vs3, rfl, hH9, hk7.trans hk69 (fun y hy => .inr (by simp at hy; omega)), fun y hy => (hB5 y hy).imp id (fun h => by have := hk4.size; have := hk0.size; omega), fun y hy => (hg4.out y hy).imp id (fun h => by have := hs2.out; have := hk0.size; omega), fun y hy => (hg5.out y hy).imp id (fun h => by have := hs2.out; have := hk0.size; omega)⟩
set_option maxHeartbeats 8000000 in
theorem doesDrop (w0 w : World) (b : Nat) (s : Sh) (B : List Nat) (a : Option Addr) (n c : Nat) (vs : List LnA) (h : Hs w0 w b s B a n c vs s.ls) (hw2 : 2 ≤ w0.heap.size) (u : AcA) (l : List Cl) (hr : Rd w u.a u.n 16 (cellsV l)) (hun : u.n ≤ 20) (hwh : u.wh = 2) :
    Calls Tryd.prog 11 #[.pointer (some ⟨b, 0, none⟩), .agg #[.int .i64 (s.places : Nat), .int .i64 (s.gone : Nat), .slice a n c], .agg #[.int .i64 u.wh, .int .i64 u.nm, .slice u.a u.n u.c, .bool u.s]] w (DoesRet w0 w B a n vs) := by
  obtain ⟨W0, hW0⟩ : ∃ z : World, z = ((w.alloc (.cells #[.int .i64 (s.places : Nat), .int .i64 (s.gone : Nat), .slice a n c] 32)).alloc (.cells #[.int .i64 u.wh, .int .i64 u.nm, .slice u.a u.n u.c, .bool u.s] 37)).alloc (.cells #[.int .i64 0, .int .i64 0, .slice none 0 0] 32) := ⟨_, rfl⟩
  have hk0 : Kept [] w W0 := by rw [hW0]; exact (((Kept.refl [] w).alloc _).alloc _).alloc _
  have hbs : Hid (ShIn W0 w.heap.size s.places s.gone a n c) := hide (by rw [hW0]; exact (ShIn.new w s.places s.gone a n c).kept (((Kept.refl [] _).alloc _).alloc _) (by simp))
  have hba : Hid (AcIn W0 (w.heap.size + 1) u) := hide (by rw [hW0]; exact AcIn.kept (heap_new_at (by simp)) ((Kept.refl [] _).alloc _) (by simp))
  have hbz : Hid (ShIn W0 (w.heap.size + 1 + 1) 0 0 none 0 0) := hide (by rw [hW0]; exact heap_new_at (by simp))
  have hs0 : w.heap.size + 1 + 1 < W0.heap.size := hbz.out.lt
  have hH := hide h
  have hR := hide (hr.kept hk0 (by simp))
  have hBlt := hide (PG.lt _ _ _ _ h.pg)
  have hNlt := hide h.rd.ltN
  have hVlt := hide h.rd.at'.lt
  have hok := hide (PG.ok _ _ _ _ h.pg)
  have hll := hide h.rd.len
  have hw0s := hide h.kp.size
  have hgn := hide (show s.gone + n ≤ s.places by have h1 := hok.out.1.1; have h2 := hll.out; omega)
  have hp1 := hide (show s.places ≤ 100000 by have h1 := hok.out.2.2; omega)
  clear h hr
  obtain ⟨r, hps⟩ : ∃ r, dropS s u.nm = r := ⟨_, rfl⟩
  replace hps := hide hps
  have e0 : (u.wh == 0) = false := by simp [hwh]
  have e1 : (u.wh == 1) = false := by simp [hwh]
  have e2 : (u.wh == 2) = true := by simp [hwh]
  replace hwh := hide hwh
  go_enter Tryd.func11, Tryd.ntmps11
  go_upto_region 1 with fail
  rw [← hW0]
  clear hW0
  obtain ⟨q0, q1, q2, q3⟩ := hba.out.at
  go_wp2_with fail
  refine (rCopy_any u.a u.n u.c u.s l W0 hR.out (by omega)).mono ?_
  rintro e w1 ⟨ao, no, co, rfl, hoo, hoa, hob, j1⟩
  have hno : no ≤ 1000 := by have h1 := hoo.rd.clen; have h2 := hR.out.clen; omega
  go_upto_region 2 with (refine wpList_store_lin rfl rfl rfl w1.heap.size rfl (LinIn.new w1 none 0 0 false) ao no co u.s rfl ?_; intro w2 hb9 j2)
  have hj2 : Kept [] w1 w2 := ((Kept.refl [] w1).alloc (.cells #[.slice none 0 0, .bool false] 35)).trans j2 (by simp)
  have hk2 : Kept [] W0 w2 := j1.trans hj2 (by simp)
  have hw12 := hide hb9.lt
  have ho2 := hide (hoo.kept hj2 (by simp))
  have hoge := hide (fun y (hy : y ∈ blk ao) => hoo.ge y hy)
  have hb9 := hide hb9
  have hs1 := hide j1.size
  clear q0 q1 q2 q3 hoo j2 hj2 j1
  obtain ⟨q0, q1, q2, q3⟩ := (hba.out.kept hk2 (by simp)).at
  obtain ⟨p0, p1, p2⟩ := (hbs.out.kept hk2 (by simp)).at
  have hRL := hH.out.keep (hk0.trans hk2 (by simp))
  go_wp2_with fail
  refine ((show Calls _ _ _ _ (ShGive w2 a n vs r) from hps.out ▸ rDrop_any s.places s.gone a n c vs s.ls u.nm w2 hRL.rd hRL.nc hRL.cm hp1.out hgn.out)).mono ?_
  rintro e w3 ⟨a3, n3, c3, vs3, rfl, hg1, hg2, hg3, j3, hg4, hg5⟩
  clear p0 p1 p2 q0 q1 q2 q3
  go_upto_region 15 with (refine wpList_store_sh rfl rfl rfl w3.heap.size rfl (ShIn.new w3 0 0 none 0 0) r.1.places r.1.gone a3 n3 c3 rfl ?_; intro w4 hb10 j4)
  have hj4 : Kept [] w3 w4 := ((Kept.refl [] w3).alloc (.cells #[.int .i64 0, .int .i64 0, .slice none 0 0] 32)).trans j4 (by simp)
  have hk24 : Kept [] w2 w4 := j3.trans hj4 (by simp)
  have hk4 := hk2.trans hk24 (by simp)
  have hs4 := hide hb10.lt
  have hs34 := hide j3.size
  have hH4 := hide ((hRL.given hg1 hg2 hg3 j3 hg4 hg5).keep hj4)
  have hg4 := hide hg4
  have hg5 := hide hg5
  have hb10 := hide hb10
  have hs2 := hide hk2.size
  clear hRL hg1 hg2 hg3 j3 j4 hj4
  have hF : ∀ {W : World}, Kept B w4 W → ShIn W w3.heap.size r.1.places r.1.gone a3 n3 c3 ∧ W.cell? ⟨w.heap.size + 1, 1, none⟩ = some (.int .i64 u.nm) := fun hk => ⟨hb10.out.kept hk (fun hm => by have h4 := hs34.out; have h5 := hs2.out; have := hBlt.out _ hm; omega), ((hba.out.kept hk4 (by simp)).kept hk (fun hm => by have := hBlt.out _ hm; omega)).at.2.1⟩
  have hzB0 : w.heap.size + 1 + 1 ∉ B := fun hm => by have := hBlt.out _ hm; omega
  have hne : w3.heap.size ≠ w.heap.size + 1 + 1 := by have := hs2.out; have := hs34.out; omega
  have hDr := hide (hH4.out.keep (Kept.refl [] w4).drew)
  refine wp_region_held_drew (S := (fun W => ShIn W w3.heap.size r.1.places r.1.gone a3 n3 c3 ∧ W.cell? ⟨w.heap.size + 1, 1, none⟩ = some (.int .i64 u.nm))) (by kernel_rfl) ?_ (fun hHeld => ?_)
  · (try dsimp only); (first | exact hS9 | exact hF k5 | exact hF (Kept.refl B w4).drew)
  refine wpAnyH_take (i := 0) (v := ?_) rfl (by kernel_rfl) (by kernel_rfl) (by kernel_rfl) (fun _ _ _ h => h) (Or.inl ⟨by rfl, ?_⟩) (by assumption) ?_
  rotate_left
  · (intro wq hSw; (try dsimp only at hSw); go_simp; try with_reducible rfl)
  try simp only [Act.put, List.getElem_toArray, List.getElem_cons_zero, List.setIfInBounds_toArray, List.set_cons_zero, List.set_cons_succ]
  refine wpAnyH_take (i := 1) (v := (.agg #[.int .i64 r.1.places, .int .i64 r.1.gone, .slice a3 n3 c3])) rfl (by kernel_rfl) (by kernel_rfl) (by kernel_rfl) (fun _ _ _ h => h) (yieldsIf_load_mid (by rfl) 32 _ rfl w3.heap.size 0 rfl (shL r.1.places r.1.gone a3 n3 c3) _ (fun _ h => h.1.range) Tryd.underlying32 rfl (by kernel_rfl)) (by assumption) ?_
  try simp only [Act.put, List.getElem_toArray, List.getElem_cons_succ, List.getElem_cons_zero, List.setIfInBounds_toArray, List.set_cons_zero, List.set_cons_succ]
  refine wpAnyH_take (i := 2) (v := ?_) rfl (by kernel_rfl) (by kernel_rfl) (by kernel_rfl) (fun _ _ _ h => h) (Or.inl ⟨by rfl, ?_⟩) (by assumption) ?_
  rotate_left
  · (intro wq hSw; (try dsimp only at hSw); go_simp; try with_reducible rfl)
  try simp only [Act.put, List.getElem_toArray, List.getElem_cons_succ, List.getElem_cons_zero, List.setIfInBounds_toArray, List.set_cons_zero, List.set_cons_succ]
  refine wpAnyH_take (i := 3) (v := ?_) rfl (by kernel_rfl) (by kernel_rfl) (by kernel_rfl) (fun _ _ _ h => h) (Or.inl ⟨by rfl, ?_⟩) (by assumption) ?_
  rotate_left
  · (intro wq hSw; (try dsimp only at hSw); go_simp; try with_reducible rfl)
  try simp only [Act.put, List.getElem_toArray, List.getElem_cons_succ, List.getElem_cons_zero, List.setIfInBounds_toArray, List.set_cons_zero, List.set_cons_succ]
  refine wpAnyH_take (i := 4) (v := ?_) rfl (by kernel_rfl) (by kernel_rfl) (by kernel_rfl) (fun _ _ _ h => h) (Or.inl ⟨by rfl, ?_⟩) (by assumption) ?_
  rotate_left
  · (intro wq hSw; (try dsimp only at hSw); go_simp; try with_reducible rfl)
  try simp only [Act.put, List.getElem_toArray, List.getElem_cons_succ, List.getElem_cons_zero, List.setIfInBounds_toArray, List.set_cons_zero, List.set_cons_succ]
  refine wpAnyH_take (i := 6) (v := ?_) rfl (by kernel_rfl) (by kernel_rfl) (by kernel_rfl) (fun _ _ _ h => h) (Or.inl ⟨by rfl, ?_⟩) (by assumption) ?_
  rotate_left
  · (intro wq hSw; (try dsimp only at hSw); go_simp; try with_reducible rfl)
  try simp only [Act.put, List.getElem_toArray, List.getElem_cons_succ, List.getElem_cons_zero, List.setIfInBounds_toArray, List.set_cons_zero, List.set_cons_succ]
  refine wpAnyH_ready (rs := [5]) (by kernel_rfl) (by simp) ?_
  refine AllReadyH.cons rfl (fun K hK => ?_) AllReadyH.nil
  go_simp
  refine (hDr.out.drop (s' := r.1) hw2 u.nm r.2 hps.out).mono ?_; rintro e w5 ⟨rfl, B5, hH5, k5', hB5⟩; have k5 : Kept B w4 w5 := (Kept.refl B w4).drew.trans k5' (fun y hy => .inl hy)
  try go_wp2_with fail
  refine hK.out _ _ ?_ (fun hHeld => ?_)
  · (try dsimp only); (first | exact hS9 | exact hF k5 | exact hF (Kept.refl B w4).drew)
  clear hK K
  try simp only [Act.put, List.getElem_toArray, List.getElem_cons_succ, List.getElem_cons_zero, List.setIfInBounds_toArray, List.set_cons_zero, List.set_cons_succ]
  refine wpAnyH_take (i := 7) (v := ?_) rfl (by kernel_rfl) (by kernel_rfl) (by kernel_rfl) (fun _ _ _ h => h) (Or.inl ⟨by rfl, ?_⟩) (by assumption) ?_
  rotate_left
  · (intro wq hSw; (try dsimp only at hSw); go_simp; try with_reducible rfl)
  try simp only [Act.put, List.getElem_toArray, List.getElem_cons_succ, List.getElem_cons_zero, List.setIfInBounds_toArray, List.set_cons_zero, List.set_cons_succ]
  refine wpAnyH_take (i := 8) (v := ?_) rfl (by kernel_rfl) (by kernel_rfl) (by kernel_rfl) (fun _ _ _ h => h) (Or.inl ⟨by rfl, ?_⟩) (by assumption) ?_
  rotate_left
  · (intro wq hSw; (try dsimp only at hSw); go_simp; try with_reducible rfl)
  try simp only [Act.put, List.getElem_toArray, List.getElem_cons_succ, List.getElem_cons_zero, List.setIfInBounds_toArray, List.set_cons_zero, List.set_cons_succ]
  refine wpAnyH_ready (rs := [9]) (by kernel_rfl) (by simp) ?_
  refine AllReadyH.cons rfl (fun K hK => ?_) AllReadyH.nil
  rw [if_pos (by rfl)]
  refine wp_store_sh rfl rfl (w.heap.size + 1 + 1) rfl ((hbz.out.kept hk4 (by simp)).kept k5 hzB0) r.1.places r.1.gone a3 n3 c3 rfl ?_; intro w9 hb99 j9; have hS9 := And.intro ((hF k5).1.kept j9 (by simpa using hne)) (j9.cell (hF k5).2 (by simp))
  refine hK.out _ _ ?_ (fun hHeld => ?_)
  · (try dsimp only); (first | exact hS9 | exact hF k5 | exact hF (Kept.refl B w4).drew)
  clear hK K
  try simp only [Act.put, List.getElem_toArray, List.getElem_cons_succ, List.getElem_cons_zero, List.setIfInBounds_toArray, List.set_cons_zero, List.set_cons_succ]
  refine wpAnyH_take (i := 10) (v := ?_) rfl (by kernel_rfl) (by kernel_rfl) (by kernel_rfl) (fun _ _ _ h => h) (Or.inl ⟨by rfl, ?_⟩) (by assumption) ?_
  rotate_left
  · (intro wq hSw; (try dsimp only at hSw); go_simp; try with_reducible rfl)
  try simp only [Act.put, List.getElem_toArray, List.getElem_cons_succ, List.getElem_cons_zero, List.setIfInBounds_toArray, List.set_cons_zero, List.set_cons_succ]
  refine wpAnyH_done (by kernel_rfl) ?_ _
  have hB5 : ∀ y ∈ B5, y ∈ B ∨ w4.heap.size ≤ y := hB5
  have hk7z : Kept [] w w4 := hk0.trans hk4 (by simp)
  have hk7 : Kept B w w5 := (hk7z.mono (by simp)).trans k5 (fun y hy => .inl hy)
  have hH6 := hide hH5
  have hzB : w.heap.size + 1 + 1 ∉ B5 := fun hm => (hB5 _ hm).elim (fun h => by have := hBlt.out _ h; omega) (fun h => by have := hk4.size; omega)
  have hzN : w.heap.size + 1 + 1 ∉ blkN a3 n3 := fun hm => (hg4.out _ hm).elim (fun h => by have := hNlt.out _ h; omega) (fun h => by have := hs2.out; omega)
  have hzV : w.heap.size + 1 + 1 ∉ blks vs3 := fun hm => (hg5.out _ hm).elim (fun h => by have := hVlt.out _ h; omega) (fun h => by have := hs2.out; omega)
  go_wp2_with fail
  refine bodyPost_ret (results_does rfl rfl hb99 rfl rfl) rfl ?_
  have hk69 := j9
  have hn6 := hH6.out
  have hH9 := hn6.keepS hw2 hk69 (fun y hy => by simp at hy; have := hw0s.out; omega) (fun y hy hm => by simp at hm; subst hm; exact hzB hy) (fun y hy hm => by simp at hm; subst hm; exact hzN hy) (fun y hy hm => by simp at hm; subst hm; exact hzV hy)
  refine ⟨b, r.1, B5, a3, n3, c3, vs3, rfl, hH9, hk7.trans hk69 (fun y hy => .inr (by simp at hy; omega)), fun y hy => (hB5 y hy).imp id (fun h => by have := hk4.size; have := hk0.size; omega), fun y hy => (hg4.out y hy).imp id (fun h => by have := hs2.out; have := hk0.size; omega), fun y hy => (hg5.out y hy).imp id (fun h => by have := hs2.out; have := hk0.size; omega)⟩
set_option maxHeartbeats 8000000 in
theorem doesPop (w0 w : World) (b : Nat) (s : Sh) (B : List Nat) (a : Option Addr) (n c : Nat) (vs : List LnA) (h : Hs w0 w b s B a n c vs s.ls) (hw2 : 2 ≤ w0.heap.size) (u : AcA) (l : List Cl) (hr : Rd w u.a u.n 16 (cellsV l)) (hun : u.n ≤ 20) (hwh : u.wh = 3) :
    Calls Tryd.prog 11 #[.pointer (some ⟨b, 0, none⟩), .agg #[.int .i64 (s.places : Nat), .int .i64 (s.gone : Nat), .slice a n c], .agg #[.int .i64 u.wh, .int .i64 u.nm, .slice u.a u.n u.c, .bool u.s]] w (DoesRet w0 w B a n vs) := by
  obtain ⟨W0, hW0⟩ : ∃ z : World, z = ((w.alloc (.cells #[.int .i64 (s.places : Nat), .int .i64 (s.gone : Nat), .slice a n c] 32)).alloc (.cells #[.int .i64 u.wh, .int .i64 u.nm, .slice u.a u.n u.c, .bool u.s] 37)).alloc (.cells #[.int .i64 0, .int .i64 0, .slice none 0 0] 32) := ⟨_, rfl⟩
  have hk0 : Kept [] w W0 := by rw [hW0]; exact (((Kept.refl [] w).alloc _).alloc _).alloc _
  have hbs : Hid (ShIn W0 w.heap.size s.places s.gone a n c) := hide (by rw [hW0]; exact (ShIn.new w s.places s.gone a n c).kept (((Kept.refl [] _).alloc _).alloc _) (by simp))
  have hba : Hid (AcIn W0 (w.heap.size + 1) u) := hide (by rw [hW0]; exact AcIn.kept (heap_new_at (by simp)) ((Kept.refl [] _).alloc _) (by simp))
  have hbz : Hid (ShIn W0 (w.heap.size + 1 + 1) 0 0 none 0 0) := hide (by rw [hW0]; exact heap_new_at (by simp))
  have hs0 : w.heap.size + 1 + 1 < W0.heap.size := hbz.out.lt
  have hH := hide h
  have hR := hide (hr.kept hk0 (by simp))
  have hBlt := hide (PG.lt _ _ _ _ h.pg)
  have hNlt := hide h.rd.ltN
  have hVlt := hide h.rd.at'.lt
  have hok := hide (PG.ok _ _ _ _ h.pg)
  have hll := hide h.rd.len
  have hw0s := hide h.kp.size
  have hgn := hide (show s.gone + n ≤ s.places by have h1 := hok.out.1.1; have h2 := hll.out; omega)
  have hp1 := hide (show s.places ≤ 100000 by have h1 := hok.out.2.2; omega)
  clear h hr
  obtain ⟨r, hps⟩ : ∃ r, popS s = r := ⟨_, rfl⟩
  replace hps := hide hps
  have e0 : (u.wh == 0) = false := by simp [hwh]
  have e1 : (u.wh == 1) = false := by simp [hwh]
  have e2 : (u.wh == 2) = false := by simp [hwh]
  have e3 : (u.wh == 3) = true := by simp [hwh]
  replace hwh := hide hwh
  go_enter Tryd.func11, Tryd.ntmps11
  go_upto_region 1 with fail
  rw [← hW0]
  clear hW0
  obtain ⟨q0, q1, q2, q3⟩ := hba.out.at
  go_wp2_with fail
  refine (rCopy_any u.a u.n u.c u.s l W0 hR.out (by omega)).mono ?_
  rintro e w1 ⟨ao, no, co, rfl, hoo, hoa, hob, j1⟩
  have hno : no ≤ 1000 := by have h1 := hoo.rd.clen; have h2 := hR.out.clen; omega
  go_upto_region 2 with (refine wpList_store_lin rfl rfl rfl w1.heap.size rfl (LinIn.new w1 none 0 0 false) ao no co u.s rfl ?_; intro w2 hb9 j2)
  have hj2 : Kept [] w1 w2 := ((Kept.refl [] w1).alloc (.cells #[.slice none 0 0, .bool false] 35)).trans j2 (by simp)
  have hk2 : Kept [] W0 w2 := j1.trans hj2 (by simp)
  have hw12 := hide hb9.lt
  have ho2 := hide (hoo.kept hj2 (by simp))
  have hoge := hide (fun y (hy : y ∈ blk ao) => hoo.ge y hy)
  have hb9 := hide hb9
  have hs1 := hide j1.size
  clear q0 q1 q2 q3 hoo j2 hj2 j1
  obtain ⟨q0, q1, q2, q3⟩ := (hba.out.kept hk2 (by simp)).at
  obtain ⟨p0, p1, p2⟩ := (hbs.out.kept hk2 (by simp)).at
  have hRL := hH.out.keep (hk0.trans hk2 (by simp))
  go_wp2_with fail
  refine (show Calls _ _ _ _ (ShGive3 w2 a n vs r) from hps.out ▸ rPop_any s.places s.gone a n c vs s.ls w2 hRL.rd hRL.nc hRL.cm (by have := hgn.out; have := hp1.out; omega)).mono ?_
  rintro e w3 ⟨a3, n3, c3, vs3, v3, rfl, hg1, hg2, hg3, hg6, j3, hg4, hg5, hg7⟩
  clear p0 p1 p2 q0 q1 q2 q3
  have hz18 : Hid (ShIn ((w3.alloc (.cells #[.int .i64 0, .int .i64 0, .slice none 0 0] 32)).alloc (.cells #[.slice none 0 0, .bool false] 35)) w3.heap.size 0 0 none 0 0) := hide ((ShIn.new w3 0 0 none 0 0).kept ((Kept.refl [] _).alloc _) (by simp))
  have hz19 : Hid (LinIn ((w3.alloc (.cells #[.int .i64 0, .int .i64 0, .slice none 0 0] 32)).alloc (.cells #[.slice none 0 0, .bool false] 35)) (w3.heap.size + 1) none 0 0 false) := hide (heap_new_at (by simp))
  have hka : Hid (Kept [] w3 ((w3.alloc (.cells #[.int .i64 0, .int .i64 0, .slice none 0 0] 32)).alloc (.cells #[.slice none 0 0, .bool false] 35))) := hide (((Kept.refl [] w3).alloc _).alloc _)
  go_upto_region 18 with (first | refine wpList_store_lin rfl rfl rfl (w3.heap.size + 1) rfl (hz19.out.kept j4a (by simp)) v3.a v3.n v3.c v3.s rfl ?_; intro w4 hb19 j4 | refine wpList_store_sh rfl rfl rfl w3.heap.size rfl hz18.out r.1.places r.1.gone a3 n3 c3 rfl ?_; intro w4a hb10a j4a)
  have hj4a : Kept [] w3 w4a := hka.out.trans j4a (by simp)
  have hj4 : Kept [] w3 w4 := hj4a.trans j4 (by simp)
  have hb10 := hb10a.kept j4 (by simp)
  have hk24 : Kept [] w2 w4 := j3.trans hj4 (by simp)
  have hk4 := hk2.trans hk24 (by simp)
  have hs4 := hide hb10.lt
  have hs34 := hide j3.size
  have hH4 := hide ((hRL.given hg1 hg2 hg3 j3 hg4 hg5).keep hj4)
  have hg6 := hide (hg6.kept hj4 (by simp))
  have hg7 := hide hg7
  have hg4 := hide hg4
  have hg5 := hide hg5
  have hb10 := hide hb10
  have hs2 := hide hk2.size
  have hb19 := hide hb19
  clear hRL hg1 hg2 hg3 j3 j4 j4a hj4 hj4a hz18 hz19 hka hb10a
  have hlen := hide (show r.2.1.l.length ≤ 1000 by rw [← hps.out]; exact pop_len hok.out.1)
  go_wp2_with fail
  refine (hH4.out.pop (s' := r.1) hw2 r.2.1 r.2.2 hps.out).mono ?_
  rintro e w5 ⟨a5, n5, c5, rfl, hat5, hown5, hge5, B5, hH5, hd5, k5, hB5⟩
  go_upto_region 19 with (refine wpList_store_lin rfl rfl rfl w5.heap.size rfl (LinIn.new w5 none 0 0 false) a5 n5 c5 r.2.1.s rfl ?_; intro w6 hb21 j6)
  have hj6 : Kept [] w5 w6 := ((Kept.refl [] w5).alloc (.cells #[.slice none 0 0, .bool false] 35)).trans j6 (by simp)
  have hat6 := hide (hat5.kept hj6 (by simp))
  have hown6 := hide (hown5.kept hj6 (by simp))
  have hH6a := hide (hH5.keep hj6)
  have hb19B : w3.heap.size + 1 ∉ B := fun hm => by have h4 := hs34.out; have h5 := hs2.out; have := hBlt.out _ hm; omega
  have hb10B : w3.heap.size ∉ B := fun hm => by have h4 := hs34.out; have h5 := hs2.out; have := hBlt.out _ hm; omega
  have hzB0 : w.heap.size + 1 + 1 ∉ B := fun hm => by have := hBlt.out _ hm; omega
  have hb19 := hide ((hb19.out.kept k5 hb19B).kept hj6 (by simp))
  have hb10 := hide ((hb10.out.kept k5 hb10B).kept hj6 (by simp))
  have hbz5 := hide (((hbz.out.kept hk4 (by simp)).kept k5 hzB0).kept hj6 (by simp))
  have hv6 := hide ((hg6.out.kept k5 (fun y hy hm => hH.out.d2 y (hg7.out y hy) hm)).kept hj6 (by simp))
  have hs45 := hide k5.size
  have hs56 := hide hj6.size
  have hd5 := hide hd5
  have hge5 := hide hge5
  have hB5 := hide hB5
  have hk46 := hide (k5.trans hj6 (by simp))
  clear hat5 hown5 hH5 j6 hj6 k5
  obtain ⟨p0, p1⟩ := hb21.at
  obtain ⟨t0, t1⟩ := hb19.out.at
  go_wp2_with fail
  have hSm := rSame6_any a5 n5 c5 r.2.1.s r.2.1.l v3.a v3.n v3.c v3.s r.2.1.l w6 hat6.out.rd hv6.out.rd (by have h1 := hat6.out.len; have h3 := hlen.out; simp only at h1; omega)
  rw [show decide (r.2.1.s = v3.s ∧ r.2.1.l = r.2.1.l) = true by rw [hv6.out.s]; simp] at hSm
  refine hSm.mono ?_
  rintro e w7 ⟨rfl, j7⟩
  clear t0 t1 p0 p1
  obtain ⟨p0, p1⟩ := (hb21.kept j7 (by simp)).at
  obtain ⟨lo, hlo⟩ := hown6.out.kept j7 (by simp)
  have hn5 : n5 ≤ 1000 := by have h1 := hat6.out.len; have h3 := hlen.out; simp only at h1; omega
  go_wp2_with fail
  refine (Stain_any a5 n5 c5 0 lo w7 hlo hn5).mono ?_
  rintro e w8 ⟨rfl, j8⟩
  clear p0 p1
  have hL5 : ∀ y ∈ blk a5, y ∈ B ∨ w4.heap.size ≤ y := fun y hy => (hd5.out y hy).2
  have h5lt : ∀ y ∈ blk a5, y < w7.heap.size := fun y hy => (hlo.ge y hy).2
  have hx : ∀ y, y < w4.heap.size → y ∉ B → y ∉ blk a5 := fun y h1 h3 hm => (hL5 y hm).elim h3 (fun h => by omega)
  have hz4 : w.heap.size + 1 + 1 < w4.heap.size := by have := hk4.size; omega
  have hH6 := hide ((hH6a.out.keep j7).keepS hw2 j8 hge5.out (fun y hy hm => (hd5.out y hm).1 hy) (fun y hy hm => (hL5 y hm).elim (fun h => hH4.out.d1 y hy h) (fun h => by have := hH4.out.rd.ltN y hy; omega)) (fun y hy hm => (hL5 y hm).elim (fun h => hH4.out.d2 y hy h) (fun h => by have := hH4.out.rd.at'.lt y hy; omega)))
  have hb106 := hide ((hb10.out.kept j7 (by simp)).kept j8 (hx _ hs4.out hb10B))
  have hbz6 := hide ((hbz5.out.kept j7 (by simp)).kept j8 (hx _ hz4 hzB0))
  have hk7z : Kept [] w w4 := hk0.trans hk4 (by simp)
  have hk7 : Kept B w w8 := (((hk7z.mono (by simp)).trans hk46.out (fun y hy => .inl hy)).trans j7 (by simp)).trans j8 (fun y hy => (hL5 y hy).imp id (fun h => by have := hk7z.size; omega))
  have hB5 := hB5.out
  go_upto_region 21 with fail
  have hne : w3.heap.size ≠ w.heap.size + 1 + 1 := by have := hs2.out; have := hs34.out; omega
  refine wp_region_held_drew (S := (fun W => ShIn W (w3.heap.size) r.1.places r.1.gone a3 n3 c3)) (by kernel_rfl) ?_ (fun hHeld => ?_)
  · (try dsimp only); (first | exact hS9 | exact hb106.out.kept (Kept.refl [] w8).drew (by simp))
  refine wpAnyH_take (i := 0) (v := ?_) rfl (by kernel_rfl) (by kernel_rfl) (by kernel_rfl) (fun _ _ _ h => h) (Or.inl ⟨by rfl, ?_⟩) (by assumption) ?_
  rotate_left
  · (intro wq hSw; (try dsimp only at hSw); go_simp; try with_reducible rfl)
  try simp only [Act.put, List.getElem_toArray, List.getElem_cons_zero, List.setIfInBounds_toArray, List.set_cons_zero, List.set_cons_succ]
  refine wpAnyH_take (i := 1) (v := (.agg #[.int .i64 r.1.places, .int .i64 r.1.gone, .slice a3 n3 c3])) rfl (by kernel_rfl) (by kernel_rfl) (by kernel_rfl) (fun _ _ _ h => h) (yieldsIf_load_mid (by rfl) 32 _ rfl (w3.heap.size) 0 rfl (shL r.1.places r.1.gone a3 n3 c3) _ (fun _ h => h.range) Tryd.underlying32 rfl (by kernel_rfl)) (by assumption) ?_
  try simp only [Act.put, List.getElem_toArray, List.getElem_cons_succ, List.getElem_cons_zero, List.setIfInBounds_toArray, List.set_cons_zero, List.set_cons_succ]
  refine wpAnyH_take (i := 2) (v := ?_) rfl (by kernel_rfl) (by kernel_rfl) (by kernel_rfl) (fun _ _ _ h => h) (Or.inl ⟨by rfl, ?_⟩) (by assumption) ?_
  rotate_left
  · (intro wq hSw; (try dsimp only at hSw); go_simp; try with_reducible rfl)
  try simp only [Act.put, List.getElem_toArray, List.getElem_cons_succ, List.getElem_cons_zero, List.setIfInBounds_toArray, List.set_cons_zero, List.set_cons_succ]
  refine wpAnyH_take (i := 3) (v := ?_) rfl (by kernel_rfl) (by kernel_rfl) (by kernel_rfl) (fun _ _ _ h => h) (Or.inl ⟨by rfl, ?_⟩) (by assumption) ?_
  rotate_left
  · (intro wq hSw; (try dsimp only at hSw); go_simp; try with_reducible rfl)
  try simp only [Act.put, List.getElem_toArray, List.getElem_cons_succ, List.getElem_cons_zero, List.setIfInBounds_toArray, List.set_cons_zero, List.set_cons_succ]
  refine wpAnyH_ready (rs := [4]) (by kernel_rfl) (by simp) ?_
  refine AllReadyH.cons rfl (fun K hK => ?_) AllReadyH.nil
  rw [if_pos (by rfl)]
  refine wp_store_sh rfl rfl (w.heap.size + 1 + 1) rfl (hbz6.out.kept (Kept.refl [] w8).drew (by simp)) r.1.places r.1.gone a3 n3 c3 rfl ?_; intro w9 hb99 j9; have hS9 := (hb106.out.kept (Kept.refl [] w8).drew (by simp)).kept j9 (by simpa using hne)
  refine hK.out _ _ ?_ (fun hHeld => ?_)
  · (try dsimp only); (first | exact hS9 | exact hb106.out.kept (Kept.refl [] w8).drew (by simp))
  clear hK K
  try simp only [Act.put, List.getElem_toArray, List.getElem_cons_succ, List.getElem_cons_zero, List.setIfInBounds_toArray, List.set_cons_zero, List.set_cons_succ]
  refine wpAnyH_take (i := 5) (v := ?_) rfl (by kernel_rfl) (by kernel_rfl) (by kernel_rfl) (fun _ _ _ h => h) (Or.inl ⟨by rfl, ?_⟩) (by assumption) ?_
  rotate_left
  · (intro wq hSw; (try dsimp only at hSw); go_simp; try with_reducible rfl)
  try simp only [Act.put, List.getElem_toArray, List.getElem_cons_succ, List.getElem_cons_zero, List.setIfInBounds_toArray, List.set_cons_zero, List.set_cons_succ]
  refine wpAnyH_done (by kernel_rfl) ?_ _
  have hzB : w.heap.size + 1 + 1 ∉ B5 := fun hm => (hB5 _ hm).elim (fun h => by have := hBlt.out _ h; omega) (fun h => by have := hk4.size; omega)
  have hzN : w.heap.size + 1 + 1 ∉ blkN a3 n3 := fun hm => (hg4.out _ hm).elim (fun h => by have := hNlt.out _ h; omega) (fun h => by have := hs2.out; omega)
  have hzV : w.heap.size + 1 + 1 ∉ blks vs3 := fun hm => (hg5.out _ hm).elim (fun h => by have := hVlt.out _ h; omega) (fun h => by have := hs2.out; omega)
  go_wp2_with fail
  refine bodyPost_ret (results_does rfl rfl hb99 rfl rfl) rfl ?_
  have hk69 : Kept [w.heap.size + 1 + 1] w8 w9 := (((Kept.refl [] w8).drew).mono (by simp)).trans j9 (fun y hy => .inl hy)
  have hn6 := hH6.out
  have hH9 := hn6.keepS hw2 hk69 (fun y hy => by simp at hy; have := hw0s.out; omega) (fun y hy hm => by simp at hm; subst hm; exact hzB hy) (fun y hy hm => by simp at hm; subst hm; exact hzN hy) (fun y hy hm => by simp at hm; subst hm; exact hzV hy)
  refine ⟨b, r.1, B5, a3, n3, c3, vs3, rfl, hH9, hk7.trans hk69 (fun y hy => .inr (by simp at hy; omega)), fun y hy => (hB5 y hy).imp id (fun h => by have := hk4.size; have := hk0.size; omega), fun y hy => (hg4.out y hy).imp id (fun h => by have := hs2.out; have := hk0.size; omega), fun y hy => (hg5.out y hy).imp id (fun h => by have := hs2.out; have := hk0.size; omega)⟩
set_option maxHeartbeats 8000000 in
theorem doesCopy (w0 w : World) (b : Nat) (s : Sh) (B : List Nat) (a : Option Addr) (n c : Nat) (vs : List LnA) (h : Hs w0 w b s B a n c vs s.ls) (hw2 : 2 ≤ w0.heap.size) (u : AcA) (l : List Cl) (hr : Rd w u.a u.n 16 (cellsV l)) (hun : u.n ≤ 20) (hwh : u.wh ≠ 0 ∧ u.wh ≠ 1 ∧ u.wh ≠ 2 ∧ u.wh ≠ 3) :
    Calls Tryd.prog 11 #[.pointer (some ⟨b, 0, none⟩), .agg #[.int .i64 (s.places : Nat), .int .i64 (s.gone : Nat), .slice a n c], .agg #[.int .i64 u.wh, .int .i64 u.nm, .slice u.a u.n u.c, .bool u.s]] w (DoesRet w0 w B a n vs) := by
  obtain ⟨W0, hW0⟩ : ∃ z : World, z = ((w.alloc (.cells #[.int .i64 (s.places : Nat), .int .i64 (s.gone : Nat), .slice a n c] 32)).alloc (.cells #[.int .i64 u.wh, .int .i64 u.nm, .slice u.a u.n u.c, .bool u.s] 37)).alloc (.cells #[.int .i64 0, .int .i64 0, .slice none 0 0] 32) := ⟨_, rfl⟩
  have hk0 : Kept [] w W0 := by rw [hW0]; exact (((Kept.refl [] w).alloc _).alloc _).alloc _
  have hbs : Hid (ShIn W0 w.heap.size s.places s.gone a n c) := hide (by rw [hW0]; exact (ShIn.new w s.places s.gone a n c).kept (((Kept.refl [] _).alloc _).alloc _) (by simp))
  have hba : Hid (AcIn W0 (w.heap.size + 1) u) := hide (by rw [hW0]; exact AcIn.kept (heap_new_at (by simp)) ((Kept.refl [] _).alloc _) (by simp))
  have hbz : Hid (ShIn W0 (w.heap.size + 1 + 1) 0 0 none 0 0) := hide (by rw [hW0]; exact heap_new_at (by simp))
  have hs0 : w.heap.size + 1 + 1 < W0.heap.size := hbz.out.lt
  have hH := hide h
  have hR := hide (hr.kept hk0 (by simp))
  have hBlt := hide (PG.lt _ _ _ _ h.pg)
  have hNlt := hide h.rd.ltN
  have hVlt := hide h.rd.at'.lt
  have hok := hide (PG.ok _ _ _ _ h.pg)
  have hll := hide h.rd.len
  have hw0s := hide h.kp.size
  have hgn := hide (show s.gone + n ≤ s.places by have h1 := hok.out.1.1; have h2 := hll.out; omega)
  have hp1 := hide (show s.places ≤ 100000 by have h1 := hok.out.2.2; omega)
  clear h hr
  have e0 : (u.wh == 0) = false := by simp [hwh]
  have e1 : (u.wh == 1) = false := by simp [hwh]
  have e2 : (u.wh == 2) = false := by simp [hwh]
  have e3 : (u.wh == 3) = false := by simp [hwh]
  replace hwh := hide hwh
  have hpp : ∀ (b : Nat) w1, (binOp .eql 25 (.pointer (some ⟨b, 0, none⟩)) (.pointer none)).run Tryd.prog w1 = .ok (.bool false) w1 := fun b w1 => by kernel_rfl
  go_enter Tryd.func11, Tryd.ntmps11
  go_upto_region 1 with fail
  rw [← hW0]
  clear hW0
  obtain ⟨q0, q1, q2, q3⟩ := hba.out.at
  go_wp2_with fail
  refine (rCopy_any u.a u.n u.c u.s l W0 hR.out (by omega)).mono ?_
  rintro e w1 ⟨ao, no, co, rfl, hoo, hoa, hob, j1⟩
  have hno : no ≤ 1000 := by have h1 := hoo.rd.clen; have h2 := hR.out.clen; omega
  go_upto_region 2 with (refine wpList_store_lin rfl rfl rfl w1.heap.size rfl (LinIn.new w1 none 0 0 false) ao no co u.s rfl ?_; intro w2 hb9 j2)
  have hj2 : Kept [] w1 w2 := ((Kept.refl [] w1).alloc (.cells #[.slice none 0 0, .bool false] 35)).trans j2 (by simp)
  have hk2 : Kept [] W0 w2 := j1.trans hj2 (by simp)
  have hw12 := hide hb9.lt
  have ho2 := hide (hoo.kept hj2 (by simp))
  have hoge := hide (fun y (hy : y ∈ blk ao) => hoo.ge y hy)
  have hb9 := hide hb9
  have hs1 := hide j1.size
  clear q0 q1 q2 q3 hoo j2 hj2 j1
  obtain ⟨q0, q1, q2, q3⟩ := (hba.out.kept hk2 (by simp)).at
  have hH2 := hide (hH.out.keep (hk0.trans hk2 (by simp)))
  go_wp2_with fail
  refine (pageIs.copy w2 b s B hH2.out.pg).mono ?_
  rintro e w3 ⟨b3, B3, rfl, hpg3, hB3, j3⟩
  have hpb := hpp b3
  clear hpp q0 q1 q2 q3
  have hs23 := hide hk2.size
  have hs33 := hide j3.size
  have hw3W := hide (show W0.heap.size ≤ w3.heap.size by have h1 := hk2.size; have h2 := j3.size; omega)
  have hw3s := hide (show w.heap.size ≤ w3.heap.size by have h1 := hw3W.out; omega)
  have hH3 := hide (hH2.out.keep j3)
  have hC3 : Hid (Hs w0 w3 b3 s B3 a n c vs s.ls) := hide ⟨hH3.out.tb, hpg3, fun y hy => by have h1 := hB3 y hy; have h2 := hH2.out.kp.size; omega, hH3.out.kp, hH3.out.rd, hH3.out.nc, hH3.out.cm, fun y hy hm => by have h1 := hB3 y hm; have h2 := hH2.out.rd.ltN y hy; omega, fun y hy hm => by have h1 := hB3 y hm; have h2 := hH2.out.rd.at'.lt y hy; omega⟩
  have hD3 : Hid (∀ y ∈ B3, y ∉ B) := hide (fun y hy hm => by have h1 := hB3 y hy; have h2 := PG.lt _ _ _ _ hH2.out.pg y hm; omega)
  have hge3 := hide (fun y (hy : y ∈ B3) => (by have h1 := hB3 y hy; have h2 := hk2.size; omega : W0.heap.size ≤ y))
  have hlt3 := hide (PG.lt _ _ _ _ hpg3)
  have hKA : Hid (Kept B w w3) := hide (((hk0.trans hk2 (by simp)).trans j3 (by simp)).mono (by simp))
  have hkb3 := hide ((hbs.out.kept hk2 (by simp)).kept j3 (by simp))
  have hkz3 := hide ((hbz.out.kept hk2 (by simp)).kept j3 (by simp))
  clear hpg3 hB3 hH2
  go_wp2_with fail
  refine (text7_any 113 w3).mono ?_
  rintro e w4 ⟨ax, nx, cx, rfl, hox, hoxa, hoxb, j4⟩
  go_wp2_with fail
  refine ((hH3.out.keep j4).push (s' := (pushS s ⟨[runeC 113], false⟩).1) hw2 ax nx cx ⟨[runeC 113], false⟩ hox.rd (pushS s ⟨[runeC 113], false⟩).2 rfl).mono ?_
  rintro e w5 ⟨rfl, B5, hH5, k5, hB5⟩
  generalize pushS s ⟨[runeC 113], false⟩ = r1 at *
  have hC5 := hide ((hC3.out.keep j4).keepS hw2 k5 (fun y hy => hH3.out.ge y hy) hD3.out (fun y hy hm => hH3.out.d1 y hy hm) (fun y hy hm => hH3.out.d2 y hy hm))
  have hD5 : Hid (∀ y ∈ B3, y ∉ B5) := hide (fun y hy hm => (hB5 y hm).elim (hD3.out y hy) (fun h => by have h1 := hlt3.out y hy; have h2 := j4.size; omega))
  have hKB5 : Hid (Kept B w w5 ∧ ∀ y ∈ B5, y ∈ B ∨ w3.heap.size ≤ y) := hide ⟨(hKA.out.trans j4 (by simp)).trans k5 (fun y hy => .inl hy), fun y hy => (hB5 y hy).imp id (fun h => by have h1 := j4.size; omega)⟩
  have hkb5 := hide ((hkb3.out.kept j4 (by simp)).kept k5 (fun hm => by have := hBlt.out _ hm; omega))
  have hkz5 := hide ((hkz3.out.kept j4 (by simp)).kept k5 (fun hm => by have := hBlt.out _ hm; omega))
  have hH5 := hide hH5
  have hs35 := hide (show w3.heap.size ≤ w5.heap.size by have h1 := j4.size; have h2 := k5.size; omega)
  clear hB5 k5 j4 hox hoxa hoxb hkb3 hkz3 hH3 hC3 hD3 hKA
  go_wp2_with fail
  refine (text7_any 112 w5).mono ?_
  rintro e w6 ⟨ax, nx, cx, rfl, hox, hoxa, hoxb, j4⟩
  go_wp2_with fail
  refine ((hH5.out.keep j4).set (s' := (setS r1.1 0 ⟨[runeC 112], false⟩).1) hw2 0 ax nx cx ⟨[runeC 112], false⟩ hox.rd (setS r1.1 0 ⟨[runeC 112], false⟩).2 rfl).mono ?_
  rintro e w7 ⟨rfl, B7, hH7, k5, hB7⟩
  generalize setS r1.1 0 ⟨[runeC 112], false⟩ = r2 at *
  have hC7 := hide ((hC5.out.keep j4).keepS hw2 k5 (fun y hy => hH5.out.ge y hy) hD5.out (fun y hy hm => hH5.out.d1 y hy hm) (fun y hy hm => hH5.out.d2 y hy hm))
  have hD7 : Hid (∀ y ∈ B3, y ∉ B7) := hide (fun y hy hm => (hB7 y hm).elim (hD5.out y hy) (fun h => by have h1 := hlt3.out y hy; have h2 := j4.size; have h3 := hs35.out; omega))
  have hKB7 : Hid (Kept B w w7 ∧ ∀ y ∈ B7, y ∈ B ∨ w3.heap.size ≤ y) := hide ⟨(hKB5.out.1.trans j4 (by simp)).trans k5 (fun y hy => (hKB5.out.2 y hy).imp id (fun h => by have := hw3s.out; omega)), fun y hy => (hB7 y hy).elim (hKB5.out.2 y) (fun h => .inr (by have h1 := j4.size; have h2 := hs35.out; omega))⟩
  have hkb7 := hide ((hkb5.out.kept j4 (by simp)).kept k5 (fun hm => (hKB5.out.2 _ hm).elim (fun h => by have := hBlt.out _ h; omega) (fun h => by have := hw3W.out; omega)))
  have hkz7 := hide ((hkz5.out.kept j4 (by simp)).kept k5 (fun hm => (hKB5.out.2 _ hm).elim (fun h => by have := hBlt.out _ h; omega) (fun h => by have := hw3W.out; omega)))
  have hH7 := hide hH7
  have hs37 := hide (show w3.heap.size ≤ w7.heap.size by have h1 := j4.size; have h2 := k5.size; have h3 := hs35.out; omega)
  clear hB7 k5 j4 hox hoxa hoxb hkb5 hkz5 hH5 hC5 hD5 hKB5
  go_wp2_with fail
  refine (hH7.out.drop (s' := (dropS r2.1 1).1) hw2 1 (dropS r2.1 1).2 rfl).mono ?_
  rintro e w8 ⟨rfl, B8, hH8, k5, hB8⟩
  have hH6 := hide (hC7.out.keepS hw2 k5 (fun y hy => hH7.out.ge y hy) hD7.out (fun y hy hm => hH7.out.d1 y hy hm) (fun y hy hm => hH7.out.d2 y hy hm))
  have hk7 : Kept B w w8 := hKB7.out.1.trans k5 (fun y hy => (hKB7.out.2 y hy).imp id (fun h => by have := hw3s.out; omega))
  have hb106 := hide (hkb7.out.kept k5 (fun hm => (hKB7.out.2 _ hm).elim (fun h => by have := hBlt.out _ h; omega) (fun h => by have := hw3W.out; omega)))
  have hbz6 := hide (hkz7.out.kept k5 (fun hm => (hKB7.out.2 _ hm).elim (fun h => by have := hBlt.out _ h; omega) (fun h => by have := hw3W.out; omega)))
  go_upto_region 28 with fail
  have hne : w.heap.size ≠ w.heap.size + 1 + 1 := by omega
  refine wp_region_held_drew (S := (fun W => ShIn W (w.heap.size) s.places s.gone a n c)) (by kernel_rfl) ?_ (fun hHeld => ?_)
  · (try dsimp only); (first | exact hS9 | exact hb106.out.kept (Kept.refl [] w8).drew (by simp))
  refine wpAnyH_take (i := 0) (v := ?_) rfl (by kernel_rfl) (by kernel_rfl) (by kernel_rfl) (fun _ _ _ h => h) (Or.inl ⟨by rfl, ?_⟩) (by assumption) ?_
  rotate_left
  · (intro wq hSw; (try dsimp only at hSw); go_simp; try with_reducible rfl)
  try simp only [Act.put, List.getElem_toArray, List.getElem_cons_zero, List.setIfInBounds_toArray, List.set_cons_zero, List.set_cons_succ]
  refine wpAnyH_take (i := 1) (v := (.agg #[.int .i64 s.places, .int .i64 s.gone, .slice a n c])) rfl (by kernel_rfl) (by kernel_rfl) (by kernel_rfl) (fun _ _ _ h => h) (yieldsIf_load_mid (by rfl) 32 _ rfl (w.heap.size) 0 rfl (shL s.places s.gone a n c) _ (fun _ h => h.range) Tryd.underlying32 rfl (by kernel_rfl)) (by assumption) ?_
  try simp only [Act.put, List.getElem_toArray, List.getElem_cons_succ, List.getElem_cons_zero, List.setIfInBounds_toArray, List.set_cons_zero, List.set_cons_succ]
  refine wpAnyH_take (i := 2) (v := ?_) rfl (by kernel_rfl) (by kernel_rfl) (by kernel_rfl) (fun _ _ _ h => h) (Or.inl ⟨by rfl, ?_⟩) (by assumption) ?_
  rotate_left
  · (intro wq hSw; (try dsimp only at hSw); go_simp; try with_reducible rfl)
  try simp only [Act.put, List.getElem_toArray, List.getElem_cons_succ, List.getElem_cons_zero, List.setIfInBounds_toArray, List.set_cons_zero, List.set_cons_succ]
  refine wpAnyH_ready (rs := [3]) (by kernel_rfl) (by simp) ?_
  refine AllReadyH.cons rfl (fun K hK => ?_) AllReadyH.nil
  rw [if_pos (by rfl)]
  refine wp_store_sh rfl rfl (w.heap.size + 1 + 1) rfl (hbz6.out.kept (Kept.refl [] w8).drew (by simp)) s.places s.gone a n c rfl ?_; intro w9 hb99 j9; have hS9 := (hb106.out.kept (Kept.refl [] w8).drew (by simp)).kept j9 (by simpa using hne)
  refine hK.out _ _ ?_ (fun hHeld => ?_)
  · (try dsimp only); (first | exact hS9 | exact hb106.out.kept (Kept.refl [] w8).drew (by simp))
  clear hK K
  try simp only [Act.put, List.getElem_toArray, List.getElem_cons_succ, List.getElem_cons_zero, List.setIfInBounds_toArray, List.set_cons_zero, List.set_cons_succ]
  refine wpAnyH_take (i := 4) (v := ?_) rfl (by kernel_rfl) (by kernel_rfl) (by kernel_rfl) (fun _ _ _ h => h) (Or.inl ⟨by rfl, ?_⟩) (by assumption) ?_
  rotate_left
  · (intro wq hSw; (try dsimp only at hSw); go_simp; try with_reducible rfl)
  try simp only [Act.put, List.getElem_toArray, List.getElem_cons_succ, List.getElem_cons_zero, List.setIfInBounds_toArray, List.set_cons_zero, List.set_cons_succ]
  refine wpAnyH_done (by kernel_rfl) ?_ _
  have hzB : w.heap.size + 1 + 1 ∉ B3 := fun hm => by have := hge3.out _ hm; omega
  have hzN : w.heap.size + 1 + 1 ∉ blkN a n := fun hm => by have := hNlt.out _ hm; omega
  have hzV : w.heap.size + 1 + 1 ∉ blks vs := fun hm => by have := hVlt.out _ hm; omega
  go_wp2_with fail
  refine bodyPost_ret (results_does rfl rfl hb99 rfl rfl) rfl ?_
  have hk69 : Kept [w.heap.size + 1 + 1] w8 w9 := (((Kept.refl [] w8).drew).mono (by simp)).trans j9 (fun y hy => .inl hy)
  have hn6 := hH6.out
  have hH9 := hn6.keepS hw2 hk69 (fun y hy => by simp at hy; have := hw0s.out; omega) (fun y hy hm => by simp at hm; subst hm; exact hzB hy) (fun y hy hm => by simp at hm; subst hm; exact hzN hy) (fun y hy hm => by simp at hm; subst hm; exact hzV hy)
  refine ⟨b3, s, B3, a, n, c, vs, rfl, hH9, hk7.trans hk69 (fun y hy => .inr (by simp at hy; omega)), fun y hy => .inr (by have := hge3.out y hy; omega), fun y hy => .inl hy, fun y hy => .inl hy⟩
end Go.Proofs.YtpeedjknjjbabaaDoor
