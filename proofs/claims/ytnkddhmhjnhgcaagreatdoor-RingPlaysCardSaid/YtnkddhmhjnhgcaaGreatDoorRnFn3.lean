/- The program's Get and Set of layer 8. -/
import Derived.Test.YtnkddhmhjnhgcaaGreatDoorRnFn2
namespace Go.Proofs.YtnkddhmhjnhgcaaGreatDoor
open Go.RowKit
set_option linter.unusedVariables false
set_option maxRecDepth 100000

theorem PG.get {w : World} {b : Nat} {s : Sh} {B : List Nat} (h : PG w b s B) (i : Int) : Calls Tryz.prog 58 #[.pointer (some ⟨b, 0, none⟩), .int .i64 i] w (GetRet s i w) := by
  obtain ⟨a, n, c, vs, h, _⟩ := h
  exact GetS_any w b s a n c vs h i
theorem PG.set {w : World} {b : Nat} {s : Sh} {B : List Nat} (h : PG w b s B) (i : Int) (a1 : Option Addr) (n1 c1 : Nat) (x : Ln) (ht : Tabs w) (hr1 : Rd w a1 n1 16 (cellsV x.l)) : Calls Tryz.prog 48 #[.pointer (some ⟨b, 0, none⟩), .int .i64 i, .agg #[.slice a1 n1 c1, .bool x.s]] w (SetRet b (setS s i x) B w) := by
  obtain ⟨a, n, c, vs, h, rfl⟩ := h
  exact SetS_any w b s a n c vs h i a1 n1 c1 x ht hr1
/-- The pointer to a page. -/
theorem RnIs.ptAt {w : World} {b : Nat} {r : Rg} {g o n c : Nat} {ps : List PgX} (h : RnIs w b r (some ⟨g, o, none⟩) n c ps) {k : Nat} {p : PgX} (hp : ps[k]? = some p) : w.cell? ⟨g, o + k, none⟩ = some (.pointer (some ⟨p.b, 0, none⟩)) := by
  obtain ⟨hkl, hpe⟩ := List.getElem?_eq_some_iff.1 hp
  have := (h.mid.cellAt rowPt (i := k) (j := 0) (u := .pointer (some ⟨p.b, 0, none⟩)) (by simpa [ptL] using hkl) (by simp [hpe, ptV, ptL])).1
  simpa using this
theorem RnIs.pgAt {w : World} {b : Nat} {r : Rg} {a : Option Addr} {n c : Nat} {ps : List PgX} (h : RnIs w b r a n c ps) {k : Nat} {p : PgX} (hp : ps[k]? = some p) : PG w p.b p.s p.B := h.pgs p (by obtain ⟨hkl, hpe⟩ := List.getElem?_eq_some_iff.1 hp; exact hpe ▸ List.getElem_mem hkl)
theorem RnIs.klt {w : World} {b : Nat} {r : Rg} {a : Option Addr} {n c : Nat} {ps : List PgX} (h : RnIs w b r a n c ps) {k : Nat} {p : PgX} (hp : ps[k]? = some p) : k < n := by have := (List.getElem?_eq_some_iff.1 hp).1; have := h.plen; omega
theorem RnIs.addr {w : World} {b : Nat} {r : Rg} {a : Option Addr} {n c : Nat} {ps : List PgX} (h : RnIs w b r a n c ps) (hn : 0 < n) : ∃ g o, a = some ⟨g, o, none⟩ := h.mid.rd.rowAddr rowPt (by have := h.plen; simp [ptL]; omega)
/-- What Get returns. -/
def Get8Ret (r : Rg) (k : Int) (w : World) (e : Ending) (w' : World) : Prop := ∃ a n c, e = .returned (.tuple #[.agg #[.slice a n c, .bool (getG r k).1.s], .int .i64 (getG r k).2]) ∧ Own w' w.heap.size 86 a n c 16 (cellsV (getG r k).1.l) ∧ n ≤ c ∧ c ≤ maxLen ∧ Kept [] w w'
theorem at_cases {r : Rg} {k : Int} (h : atG r k = 0) : ∃ d : Nat, k = (r.first : Int) + (d : Int) ∧ d < r.ls.length ∧ k.toNat - r.first = d := by
  unfold atG at h
  have hn : r.next = r.first + r.ls.length := rfl
  split at h
  · cases h
  · split at h
    · cases h
    · exact ⟨k.toNat - r.first, by omega, by omega, rfl⟩
set_option maxHeartbeats 4000000 in
theorem Get8_any (w : World) (b : Nat) (r : Rg) (a : Option Addr) (n c : Nat) (ps : List PgX) (h : RnIs w b r a n c ps) (hn : r.next ≤ 1000000000) (k : Int) :
    Calls Tryz.prog 39 #[.pointer (some ⟨b, 0, none⟩), .int .i64 k] w (Get8Ret r k w) := by
  obtain ⟨W0, hW0⟩ : ∃ z : World, z = w.alloc (.cells #[.slice none 0 0, .bool false] 36) := ⟨_, rfl⟩
  have hk0 : Kept [] w W0 := by rw [hW0]; exact (Kept.refl [] w).alloc _
  have hz0 : Hid (LinIn W0 w.heap.size none 0 0 false) := hide (by rw [hW0]; exact LinIn.new w none 0 0 false)
  have hM := hide (made_rn (h.keep hk0))
  have hMi := hide (fun w1 (hk : Kept [] W0 w1) => missing_rn (h.keep (hk0.trans hk (by simp))) k)
  by_cases hat : atG r k = 0
  · obtain ⟨d, hkd, hdl, hdk⟩ := at_cases hat
    obtain ⟨kk, i, p, hp, hi, hpi, hj, hfind⟩ := find8_any w b r a n c ps h d hdl hn
    have hn0 : 0 < n := by have := h.klt hp; omega
    obtain ⟨g, o, rfl⟩ := h.addr hn0
    have hkn : (kk : Int) < (n : Int) := by have := h.klt hp; omega
    have hbox := hide (fun w1 (hk : Kept [] W0 w1) => (h.keep (hk0.trans hk (by simp))).box)
    have hpt := hide (fun w1 (hk : Kept [] W0 w1) => (h.keep (hk0.trans hk (by simp))).ptAt hp)
    have hG := hide (fun w1 (hk : Kept [] W0 w1) => ((h.keep (hk0.trans hk (by simp))).pgAt hp).get (i : Int))
    have hFi := hide (fun w1 (hk : Kept [] W0 w1) => hfind w1 (hk0.trans hk (by simp)) k hkd)
    have hgG : getG r k = (p.s.ls[i], 0) := by
      unfold getG
      rw [if_pos hat, hdk, List.getD_eq_getElem?_getD, hpi, List.getElem?_eq_getElem hi, Option.getD_some]
    have hgS : getS p.s (i : Int) = (p.s.ls[i], 0) := by
      unfold getS
      rw [if_neg (by omega)]
      simp [hi]
    rw [hat] at hMi
    unfold Get8Ret
    rw [hgG]
    unfold GetRet at hG
    rw [hgS] at hG
    generalize p.s.ls[i] = y at *
    clear h hgG hgS hpi hat hkd hdk hfind hj hp
    go_enter Tryz.func39, Tryz.ntmps39
    go_upto_region 1 with fail
    rw [← hW0]
    clear hW0
    go_wp2_with fail
    refine hM.out.mono ?_
    rintro e w1 ⟨rfl, hk1⟩
    go_wp2_with fail
    refine (hMi.out w1 hk1).mono ?_
    rintro e w2 ⟨rfl, hj2⟩
    have hk2 := hk1.trans hj2 (by simp)
    go_wp2_with fail
    refine (hFi.out w2 hk2).mono ?_
    rintro e w3 ⟨rfl, hj3⟩
    have hk3 := hk2.trans hj3 (by simp)
    obtain ⟨q0, q1, q2, q3, q4⟩ := (hbox.out w3 hk3).at
    have q5 := hpt.out w3 hk3
    go_wp2_with fail
    refine (hG.out w3 hk3).mono ?_
    rintro e w4 ⟨a4, n4, c4, rfl, ho4, h4a, h4b, hj4⟩
    have hk4 := hk3.trans hj4 (by simp)
    go_wp2_with (refine wpList_store_lin rfl rfl rfl w.heap.size rfl (hz0.out.kept hk4 (by simp)) a4 n4 c4 y.s rfl ?_; intro w7 hb7 hk7)
    refine bodyPost_ret (results_lin2 rfl rfl hb7 rfl) rfl ?_
    have hs0 := hz0.out.lt
    have hs3 := hk3.size
    refine ⟨a4, n4, c4, rfl, (ho4.base (by have := hk0.size; omega)).kept hk7 (fun y hy hm => ?_), h4a, h4b, (hk0.trans hk4 (by simp)).trans hk7 (by simp)⟩
    simp at hm
    have := (ho4.ge y hy).1
    omega
  · have hgG : getG r k = (noLn, atG r k) := by unfold getG; rw [if_neg hat]
    obtain ⟨z, hz⟩ : ∃ z : Int, atG r k = z := ⟨_, rfl⟩
    rw [hz] at hgG hMi hat
    have hz1 : (z != 0) = true := by simp [hat]
    unfold Get8Ret
    rw [hgG]
    replace hz := hide hz
    clear h hgG hat
    go_enter Tryz.func39, Tryz.ntmps39
    go_upto_region 1 with fail
    rw [← hW0]
    clear hW0
    go_wp2_with fail
    refine hM.out.mono ?_
    rintro e w1 ⟨rfl, hk1⟩
    go_wp2_with fail
    refine (hMi.out w1 hk1).mono ?_
    rintro e w2 ⟨rfl, hj2⟩
    have hk2 := hk1.trans hj2 (by simp)
    go_wp2_with (refine wpList_store_lin rfl rfl rfl w.heap.size rfl (hz0.out.kept hk2 (by simp)) none 0 0 false rfl ?_; intro w7 hb7 hk7)
    refine bodyPost_ret (results_lin2 rfl rfl hb7 rfl) rfl ?_
    exact ⟨none, 0, 0, rfl, Own.nil _ _ _ _, Nat.le_refl _, Nat.zero_le _, (hk0.trans hk2 (by simp)).trans hk7 (by simp)⟩

/-- What a function returns that changes a ring: its blocks, or new ones. -/
def Rng8 (b : Nat) (r : Rg × Int) (B : List Nat) (w : World) (e : Ending) (w' : World) : Prop := ∃ B', e = .returned (.int .i64 r.2) ∧ RN w' b r.1 B' ∧ Kept B w w' ∧ ∀ y ∈ B', y ∈ B ∨ w.heap.size ≤ y
theorem RnIs.same {w w' : World} {b : Nat} {r : Rg} {a : Option Addr} {n c : Nat} {ps : List PgX} (h : RnIs w b r a n c ps) (hl : r.ls.length ≤ r.limit) (z : Int) (hk : Kept [] w w') : Rng8 b (r, z) (rnB b a c ps) w (.returned (.int .i64 z)) w' := ⟨rnB b a c ps, rfl, ⟨a, n, c, ps, h.keep hk, rfl, hl⟩, hk.mono (by simp), fun y hy => .inl hy⟩
set_option maxHeartbeats 4000000 in
theorem Set8_any (w : World) (b : Nat) (r : Rg) (a : Option Addr) (n c : Nat) (ps : List PgX) (h : RnIs w b r a n c ps) (hle : r.ls.length ≤ r.limit) (hn : r.next ≤ 1000000000) (k : Int) (a1 : Option Addr) (n1 c1 : Nat) (x : Ln) (ht : Tabs w) (hr1 : Rd w a1 n1 16 (cellsV x.l)) :
    Calls Tryz.prog 21 #[.pointer (some ⟨b, 0, none⟩), .int .i64 k, .agg #[.slice a1 n1 c1, .bool x.s]] w (Rng8 b (setG r k x) (rnB b a c ps) w) := by
  obtain ⟨W0, hW0⟩ : ∃ z : World, z = w.alloc (.cells #[.slice a1 n1 c1, .bool x.s] 36) := ⟨_, rfl⟩
  have hk0 : Kept [] w W0 := by rw [hW0]; exact (Kept.refl [] w).alloc _
  have hl0 : Hid (LinIn W0 w.heap.size a1 n1 c1 x.s) := hide (by rw [hW0]; exact LinIn.new w a1 n1 c1 x.s)
  have hM := hide (made_rn (h.keep hk0))
  have hMi := hide (fun w1 (hk : Kept [] W0 w1) => missing_rn (h.keep (hk0.trans hk (by simp))) k)
  have hV := hide (fun w1 (hk : Kept [] W0 w1) => ValidL_any a1 n1 c1 x.l x.s w1 (ht.kept (hk0.trans hk (by simp))) (hr1.kept (hk0.trans hk (by simp)) (by simp)))
  have hsame := hide (fun (z : Int) w1 hk => h.same hle z (w' := w1) hk)
  have hR1 := hide hr1
  have hT := hide ht
  clear hr1 ht
  by_cases hv : validL x.l = false
  · have e0 : setG r k x = (r, 2) := by unfold setG; rw [if_pos hv]
    rw [e0]
    rw [hv] at hV
    clear h e0
    go_enter Tryz.func21, Tryz.ntmps21
    go_upto_region 1 with fail
    rw [← hW0]
    clear hW0
    go_wp2_with fail
    refine hM.out.mono ?_
    rintro e w1 ⟨rfl, hk1⟩
    obtain ⟨q0, q1⟩ := (hl0.out.kept hk1 (by simp)).at
    go_wp2_with fail
    refine (hV.out w1 hk1).mono ?_
    rintro e w2 ⟨rfl, hj2⟩
    go_wp2_with fail
    go_ret
    exact hsame.out 2 _ ((hk0.trans hk1 (by simp)).trans hj2 (by simp))
  · have hv' : validL x.l = true := by simpa using hv
    rw [hv'] at hV
    have hvh := hide hv'
    have hvn := hide hv
    clear hv hv'
    by_cases hat : atG r k = 0
    · obtain ⟨d, hkd, hdl, hdk⟩ := at_cases hat
      obtain ⟨kk, i, p, hp, hi, hpi, hj, hfind⟩ := find8_any w b r a n c ps h d hdl hn
      have hn0 : 0 < n := by have := h.klt hp; omega
      obtain ⟨g, o, rfl⟩ := h.addr hn0
      have hkn : (kk : Int) < (n : Int) := by have := h.klt hp; omega
      have hbox := hide (fun w1 (hk : Kept [] W0 w1) => (h.keep (hk0.trans hk (by simp))).box)
      have hpt := hide (fun w1 (hk : Kept [] W0 w1) => (h.keep (hk0.trans hk (by simp))).ptAt hp)
      have hS := hide (fun w1 (hk : Kept [] W0 w1) => ((h.keep (hk0.trans hk (by simp))).pgAt hp).set (i : Int) a1 n1 c1 x (hT.out.kept (hk0.trans hk (by simp))) (hR1.out.kept (hk0.trans hk (by simp)) (by simp)))
      have hFi := hide (fun w1 (hk : Kept [] W0 w1) => hfind w1 (hk0.trans hk (by simp)) k hkd)
      have e0 : setG r k x = (⟨r.limit, r.places, r.first, r.ls.set d x, r.ps⟩, 0) := by unfold setG; rw [if_neg hvn.out, if_pos hat, hdk]
      have eS : setS p.s (i : Int) x = (⟨p.s.places, p.s.gone, p.s.ls.set i x⟩, 0) := by unfold setS; rw [if_neg hvn.out, if_neg (by omega)]; simp
      rw [hat] at hMi
      rw [e0]
      rw [eS] at hS
      have hw2 : rgW ⟨r.limit, r.places, r.first, r.ls.set d x, r.ps⟩ := by
        have h1 := setG_ok (k := k) (x := x) (h.wf.ok hle)
        rw [e0] at h1
        exact h1.w
      have hfin : ∀ w3 w5 B', Kept [] w w3 → PG w5 p.b ⟨p.s.places, p.s.gone, p.s.ls.set i x⟩ B' → Kept p.B w3 w5 → (∀ y ∈ B', y ∈ p.B ∨ w3.heap.size ≤ y) → Rng8 b ((⟨r.limit, r.places, r.first, r.ls.set d x, r.ps⟩ : Rg), 0) (rnB b (some ⟨g, o, none⟩) c ps) w (.returned (.int .i64 0)) w5 := fun w3 w5 B' hk3 hpg hkp hnw => by
        have hP : Paged w3 w5 ps kk p B' ⟨p.s.places, p.s.gone, p.s.ls.set i x⟩ := ⟨hpg, hkp, hnw⟩
        have h3 := h.keep hk3
        have hsk : (shs ps)[kk]? = some p.s := by simp [shs, hp]
        have q := h3.paged (r' := ⟨r.limit, r.places, r.first, r.ls.set d x, r.ps⟩) hp hP rfl rfl rfl (by show r.first + (r.ls.set d x).length = r.first + r.ls.length; simp) rfl (by rw [lnsS_set _ _ i p.s _ x hsk hi rfl, h.ls, ← hj]) (by rw [paS_set _ _ p.s _ hsk (by simp [paS])]; exact h.pa) hw2
        obtain ⟨u1, u2⟩ := RnIs.paged_nw (b := b) (a := some ⟨g, o, none⟩) (c := c) hp hP
        exact ⟨_, rfl, ⟨_, _, _, _, q, rfl, by simpa using hle⟩, (hk3.mono (by simp)).trans u1 (fun y hy => .inl hy), fun y hy => (u2 y hy).imp id (fun h => Nat.le_trans hk3.size h)⟩
      replace hfin := hide hfin
      have hmem : ∀ y ∈ p.B, y ∈ blkP ps := fun y hy => blkP_mem.2 ⟨p, by obtain ⟨hkl, hpe⟩ := List.getElem?_eq_some_iff.1 hp; exact hpe ▸ List.getElem_mem hkl, hy⟩
      have hx1 := hide (fun (hm : w.heap.size ∈ p.B) => by have := h.lt _ (rnB_mem.2 (.inr (.inr (hmem _ hm)))); omega : w.heap.size ∉ p.B)
      have hx2 := hide (fun (hm : b ∈ p.B) => h.d2 (hmem _ hm) : b ∉ p.B)
      have hx3 := hide (fun (hm : g ∈ p.B) => h.d3 g (by unfold blkC; rw [if_neg (by have := h.mid.caps.1; omega)]; simp [blk]) (hmem _ hm) : g ∉ p.B)
      clear hmem
      clear h e0 eS hpi hat hkd hdk hfind hj hw2 hp
      have hF : ∀ {w' : World}, Kept [] W0 w' → (w'.cell? ⟨w.heap.size, 0, none⟩ = some (.slice a1 n1 c1) ∧ w'.cell? ⟨w.heap.size, 1, none⟩ = some (.bool x.s)) ∧ w'.cell? ⟨b, 4, none⟩ = some (.slice (some ⟨g, o, none⟩) n c) ∧ w'.cell? ⟨g, o + kk, none⟩ = some (.pointer (some ⟨p.b, 0, none⟩)) := fun hk => ⟨(hl0.out.kept hk (by simp)).at, (hbox.out _ hk).at.2.2.2.2, hpt.out _ hk⟩
      go_enter Tryz.func21, Tryz.ntmps21
      go_upto_region 1 with fail
      rw [← hW0]
      clear hW0
      go_wp2_with fail
      refine hM.out.mono ?_
      rintro e w1 ⟨rfl, hk1⟩
      obtain ⟨q0, q1⟩ := (hl0.out.kept hk1 (by simp)).at
      go_wp2_with fail
      refine (hV.out w1 hk1).mono ?_
      rintro e w2 ⟨rfl, hj2⟩
      have hk2 := hk1.trans hj2 (by simp)
      clear q0 q1
      go_wp2_with fail
      refine (hMi.out w2 hk2).mono ?_
      rintro e w3 ⟨rfl, hj3⟩
      have hk3 := hk2.trans hj3 (by simp)
      go_wp2_with fail
      refine (hFi.out w3 hk3).mono ?_
      rintro e w4 ⟨rfl, hj4⟩
      have hk4 := hk3.trans hj4 (by simp)
      go_upto_region 9 with fail
      refine wp_region_held_drew (S := (fun w' => (w'.cell? ⟨w.heap.size, 0, none⟩ = some (.slice a1 n1 c1) ∧ w'.cell? ⟨w.heap.size, 1, none⟩ = some (.bool x.s)) ∧ w'.cell? ⟨b, 4, none⟩ = some (.slice (some ⟨g, o, none⟩) n c) ∧ w'.cell? ⟨g, o + kk, none⟩ = some (.pointer (some ⟨p.b, 0, none⟩)))) (by kernel_rfl) ?_ (fun hHeld => ?_)
      · (try dsimp only); (first | exact hF5 | exact hF hk4.drew)
      refine wpAnyH_take (i := 0) (v := ?_) rfl (by kernel_rfl) (by kernel_rfl) (by kernel_rfl) (fun _ _ _ h => h) (Or.inl ⟨by rfl, ?_⟩) (by assumption) ?_
      rotate_left
      · (intro wq hSw; (try dsimp only at hSw); go_simp; try with_reducible rfl)
      try simp only [Act.put, List.getElem_toArray, List.getElem_cons_zero, List.setIfInBounds_toArray, List.set_cons_zero, List.set_cons_succ]
      refine wpAnyH_take (i := 1) (v := ?_) rfl (by kernel_rfl) (by kernel_rfl) (by kernel_rfl) (fun _ _ _ h => h) (Or.inl ⟨by rfl, ?_⟩) (by assumption) ?_
      rotate_left
      · (intro wq hSw; (try dsimp only at hSw); go_simp; try with_reducible rfl)
      try simp only [Act.put, List.getElem_toArray, List.getElem_cons_succ, List.getElem_cons_zero, List.setIfInBounds_toArray, List.set_cons_zero, List.set_cons_succ]
      refine wpAnyH_take (i := 2) (v := ?_) rfl (by kernel_rfl) (by kernel_rfl) (by kernel_rfl) (fun _ _ _ h => h) (Or.inl ⟨by rfl, ?_⟩) (by assumption) ?_
      rotate_left
      · (intro wq hSw; (try dsimp only at hSw); go_simp; try with_reducible rfl)
      try simp only [Act.put, List.getElem_toArray, List.getElem_cons_succ, List.getElem_cons_zero, List.setIfInBounds_toArray, List.set_cons_zero, List.set_cons_succ]
      refine wpAnyH_take (i := 3) (v := ?_) rfl (by kernel_rfl) (by kernel_rfl) (by kernel_rfl) (fun _ _ _ h => h) (Or.inl ⟨by rfl, ?_⟩) (by assumption) ?_
      rotate_left
      · (intro wq hSw; (try dsimp only at hSw); go_simp; try with_reducible rfl)
      try simp only [Act.put, List.getElem_toArray, List.getElem_cons_succ, List.getElem_cons_zero, List.setIfInBounds_toArray, List.set_cons_zero, List.set_cons_succ]
      refine wpAnyH_take (i := 4) (v := ?_) rfl (by kernel_rfl) (by kernel_rfl) (by kernel_rfl) (fun _ _ _ h => h) (Or.inl ⟨by rfl, ?_⟩) (by assumption) ?_
      rotate_left
      · (intro wq hSw; (try dsimp only at hSw); go_simp; try with_reducible rfl)
      try simp only [Act.put, List.getElem_toArray, List.getElem_cons_succ, List.getElem_cons_zero, List.setIfInBounds_toArray, List.set_cons_zero, List.set_cons_succ]
      refine wpAnyH_take (i := 5) (v := ?_) rfl (by kernel_rfl) (by kernel_rfl) (by kernel_rfl) (fun _ _ _ h => h) (Or.inl ⟨by rfl, ?_⟩) (by assumption) ?_
      rotate_left
      · (intro wq hSw; (try dsimp only at hSw); go_simp; try with_reducible rfl)
      try simp only [Act.put, List.getElem_toArray, List.getElem_cons_succ, List.getElem_cons_zero, List.setIfInBounds_toArray, List.set_cons_zero, List.set_cons_succ]
      refine wpAnyH_take (i := 6) (v := ?_) rfl (by kernel_rfl) (by kernel_rfl) (by kernel_rfl) (fun _ _ _ h => h) (Or.inl ⟨by rfl, ?_⟩) (by assumption) ?_
      rotate_left
      · (intro wq hSw; (try dsimp only at hSw); go_simp; try with_reducible rfl)
      try simp only [Act.put, List.getElem_toArray, List.getElem_cons_succ, List.getElem_cons_zero, List.setIfInBounds_toArray, List.set_cons_zero, List.set_cons_succ]
      refine wpAnyH_take (i := 7) (v := ?_) rfl (by kernel_rfl) (by kernel_rfl) (by kernel_rfl) (fun _ _ _ h => h) (Or.inl ⟨by rfl, ?_⟩) (by assumption) ?_
      rotate_left
      · (intro wq hSw; (try dsimp only at hSw); go_simp; try with_reducible rfl)
      try simp only [Act.put, List.getElem_toArray, List.getElem_cons_succ, List.getElem_cons_zero, List.setIfInBounds_toArray, List.set_cons_zero, List.set_cons_succ]
      refine wpAnyH_take (i := 8) (v := ?_) rfl (by kernel_rfl) (by kernel_rfl) (by kernel_rfl) (fun _ _ _ h => h) (Or.inl ⟨by rfl, ?_⟩) (by assumption) ?_
      rotate_left
      · (intro wq hSw; (try dsimp only at hSw); go_simp; try with_reducible rfl)
      try simp only [Act.put, List.getElem_toArray, List.getElem_cons_succ, List.getElem_cons_zero, List.setIfInBounds_toArray, List.set_cons_zero, List.set_cons_succ]
      refine wpAnyH_ready (rs := [9]) (by kernel_rfl) (by simp) ?_
      refine AllReadyH.cons rfl (fun K hK => ?_) AllReadyH.nil
      go_simp
      refine (hS.out _ hk4.drew).mono ?_; rintro e w5 ⟨B', rfl, p1, p2, p3⟩; have hF5 := And.intro (And.intro (p2.cell (hF hk4.drew).1.1 hx1.out) (p2.cell (hF hk4.drew).1.2 hx1.out)) (And.intro (p2.cell (hF hk4.drew).2.1 hx2.out) (p2.cell (hF hk4.drew).2.2 hx3.out))
      try go_wp2_with fail
      refine hK.out _ _ ?_ (fun hHeld => ?_)
      · (try dsimp only); (first | exact hF5 | exact hF hk4.drew)
      clear hK K
      try simp only [Act.put, List.getElem_toArray, List.getElem_cons_succ, List.getElem_cons_zero, List.setIfInBounds_toArray, List.set_cons_zero, List.set_cons_succ]
      refine wpAnyH_take (i := 10) (v := ?_) rfl (by kernel_rfl) (by kernel_rfl) (by kernel_rfl) (fun _ _ _ h => h) (Or.inl ⟨by rfl, ?_⟩) (by assumption) ?_
      rotate_left
      · (intro wq hSw; (try dsimp only at hSw); go_simp; try with_reducible rfl)
      try simp only [Act.put, List.getElem_toArray, List.getElem_cons_succ, List.getElem_cons_zero, List.setIfInBounds_toArray, List.set_cons_zero, List.set_cons_succ]
      refine wpAnyH_done (by kernel_rfl) ?_ _
      go_wp2_with fail
      go_ret
      exact hfin.out _ _ _ (hk0.trans hk4.drew (by simp)) p1 p2 p3
    · obtain ⟨z, hz⟩ : ∃ z : Int, atG r k = z := ⟨_, rfl⟩
      have e0 : setG r k x = (r, z) := by unfold setG; rw [if_neg hvn.out, if_neg hat, hz]
      rw [hz] at hMi hat
      have hz1 : (z != 0) = true := by simp [hat]
      rw [e0]
      replace hz := hide hz
      clear h e0 hat
      go_enter Tryz.func21, Tryz.ntmps21
      go_upto_region 1 with fail
      rw [← hW0]
      clear hW0
      go_wp2_with fail
      refine hM.out.mono ?_
      rintro e w1 ⟨rfl, hk1⟩
      obtain ⟨q0, q1⟩ := (hl0.out.kept hk1 (by simp)).at
      go_wp2_with fail
      refine (hV.out w1 hk1).mono ?_
      rintro e w2 ⟨rfl, hj2⟩
      have hk2 := hk1.trans hj2 (by simp)
      clear q0 q1
      go_wp2_with fail
      refine (hMi.out w2 hk2).mono ?_
      rintro e w3 ⟨rfl, hj3⟩
      have hk3 := hk2.trans hj3 (by simp)
      go_wp2_with fail
      go_ret
      exact hsame.out z _ (hk0.trans hk3 (by simp))
end Go.Proofs.YtnkddhmhjnhgcaaGreatDoor
