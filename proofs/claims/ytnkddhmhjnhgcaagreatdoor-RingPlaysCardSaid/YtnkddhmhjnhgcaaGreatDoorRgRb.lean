/- The reference's Pop of layer 8. The reference's Set of layer 8. What follows a push's append in the reference. -/
import Derived.Test.YtnkddhmhjnhgcaaGreatDoorRgRa
import Derived.Test.YtnkddhmhjnhgcaaGreatDoorSgB
namespace Go.Proofs.YtnkddhmhjnhgcaaGreatDoor
open Go.RowKit
set_option linter.unusedVariables false
set_option maxRecDepth 100000

theorem blkC_is {g o c y : Nat} (h : y ∈ blkC (some ⟨g, o, none⟩) c) : y = g := by
  unfold blkC at h
  split at h
  · cases h
  · simpa [blk] using h
theorem blkN_sub' {a : Option Addr} {n y : Nat} (hy : y ∈ blkN a n) : y ∈ blk a := by unfold blkN at hy; split at hy; cases hy; exact hy
/-- What Pop returns. -/
def RgGive3 (w : World) (a : Option Addr) (n : Nat) (vs : List LnA) (ap : Option Addr) (np : Nat) (r : Rg × Ln × Int) (e : Ending) (w' : World) : Prop :=
  ∃ a' n' c' vs' ap' np' cp' v', e = .returned (.tuple #[.agg #[.int .i64 (r.1.limit : Nat), .int .i64 (r.1.places : Nat), .int .i64 (r.1.first : Nat), .slice a' n' c', .slice ap' np' cp'], .agg #[.slice v'.a v'.n v'.c, .bool v'.s], .int .i64 r.2.2]) ∧ LnsR w' a' n' vs' r.1.ls ∧ Rd w' ap' np' 2 (rowsV paV r.1.ps) ∧ n' ≤ c' ∧ c' ≤ maxLen ∧ np' ≤ cp' ∧ cp' ≤ maxLen ∧ LnAt w' v' r.2.1 ∧ Kept [] w w' ∧ (∀ y ∈ blkN a' n', y ∈ blkN a n ∨ w.heap.size ≤ y) ∧ (∀ y ∈ blkN ap' np', y ∈ blkN ap np ∨ w.heap.size ≤ y) ∧ (∀ y ∈ blks vs', y ∈ blks vs ∨ w.heap.size ≤ y) ∧ ∀ y ∈ blkN v'.a v'.n, y ∈ blks vs
set_option maxHeartbeats 20000000 in
theorem rPop8_any (r : Rg) (a : Option Addr) (n c : Nat) (vs : List LnA) (ap : Option Addr) (np cp : Nat) (w : World) (hr : LnsR w a n vs r.ls) (hp : Rd w ap np 2 (rowsV paV r.ps)) (hnc : n ≤ c) (hcm : c ≤ maxLen) (hnc2 : np ≤ cp) (hcm2 : cp ≤ maxLen) (hs : sumP r.ps = r.ls.length) (hf : fullP r.places r.ps) (hn : n ≤ 10000000) (hnp : np ≤ 10000000) (hpl : r.places ≤ 1024) :
    Calls Tryz.prog 29 #[.agg #[.int .i64 (r.limit : Nat), .int .i64 (r.places : Nat), .int .i64 (r.first : Nat), .slice a n c, .slice ap np cp]] w (RgGive3 w a n vs ap np (popG r)) := by
  obtain ⟨W0, hW0⟩ : ∃ z : World, z = ((w.alloc (.cells #[.int .i64 (r.limit : Nat), .int .i64 (r.places : Nat), .int .i64 (r.first : Nat), .slice a n c, .slice ap np cp] 33)).alloc (.cells #[.int .i64 0, .int .i64 0, .int .i64 0, .slice none 0 0, .slice none 0 0] 33)).alloc (.cells #[.slice none 0 0, .bool false] 36) := ⟨_, rfl⟩
  have hk0 : Kept [] w W0 := by rw [hW0]; exact (((Kept.refl [] w).alloc _).alloc _).alloc _
  have hb0 : Hid (RgIn W0 w.heap.size r.limit r.places r.first a n c ap np cp) := hide (by rw [hW0]; exact (RgIn.new w r.limit r.places r.first a n c ap np cp).kept (((Kept.refl [] _).alloc _).alloc _) (by simp))
  have hz0 : Hid (RgIn W0 (w.heap.size + 1) 0 0 0 none 0 0 none 0 0) := hide (by rw [hW0]; exact RgIn.kept (heap_new_at (by simp)) ((Kept.refl [] _).alloc _) (by simp))
  have hy0 : Hid (LinIn W0 (w.heap.size + 1 + 1) none 0 0 false) := hide (by rw [hW0]; exact heap_new_at (by simp))
  have hs0 : w.heap.size + 1 + 1 < W0.heap.size := hy0.out.lt
  have hl := hr.len
  have hvl := hr.vlen
  obtain ⟨q0, q1, q2, q3, q4⟩ := hb0.out.at
  by_cases h0 : n = 0
  · have e0 : popG r = (r, noLn, 9) := by unfold popG; rw [if_pos (List.eq_nil_of_length_eq_zero (by omega))]
    have hnz : ((n : Int) == 0) = true := by simp [h0]
    rw [e0]
    have fin : ∀ w5, Kept [] w w5 → RgGive3 w a n vs ap np (r, noLn, 9) (.returned (.tuple #[.agg #[.int .i64 (r.limit : Nat), .int .i64 (r.places : Nat), .int .i64 (r.first : Nat), .slice a n c, .slice ap np cp], .agg #[.slice none 0 0, .bool false], .int .i64 9])) w5 := fun w5 hk => ⟨a, n, c, vs, ap, np, cp, noA, rfl, hr.kept hk (by simp) (by simp), hp.kept hk (by simp), hnc, hcm, hnc2, hcm2, noA_at _, hk, fun y hy => .inl hy, fun y hy => .inl hy, fun y hy => .inl hy, fun y hy => by simp [blkN, noA] at hy⟩
    have fin := hide fin
    replace h0 := hide h0
    clear e0
    go_enter Tryz.func29, Tryz.ntmps29
    go_upto_region 1 with fail
    rw [← hW0]
    clear hW0
    go_upto_region 2 with fail
    go_wp2_with (first | refine wpList_store_lin rfl rfl rfl (w.heap.size + 1 + 1) rfl (hy0.out.kept j5 (by simp)) none 0 0 false rfl ?_; intro w6 hb6 j6 | refine wpList_store_rg rfl rfl rfl (w.heap.size + 1) rfl hz0.out r.limit r.places r.first a n c ap np cp rfl ?_; intro w5 hb5 j5)
    refine bodyPost_ret (results_rg3 rfl rfl rfl (hb5.kept j6 (by simp)) hb6 rfl) rfl ?_
    exact fin.out _ ((hk0.trans j5 (by intro y hy; simp at hy; omega)).trans j6 (by intro y hy; simp at hy; omega))
  · have hnz : ((n : Int) == 0) = false := by simp [h0]
    obtain ⟨m, rfl⟩ : ∃ m, n = m + 1 := ⟨n - 1, by omega⟩
    have hne : r.ls ≠ [] := fun e => by rw [e] at hl; simp at hl
    have hdl : m < r.ls.length := by omega
    have hdv : m < vs.length := by omega
    have hpn : r.ps ≠ [] := fun e => by rw [e] at hs; simp [sumP] at hs; omega
    obtain ⟨qs, q, hps⟩ : ∃ qs q, r.ps = qs ++ [q] := ⟨r.ps.dropLast, r.ps.getLast hpn, (List.dropLast_concat_getLast hpn).symm⟩
    have hqn : qs.length + 1 = np := by have := hp.rowLen rowPa; rw [hps] at this; simpa using this
    have hq := fullP_last q qs (by rw [← hps]; exact hf)
    have e0 : popG r = (⟨r.limit, r.places, r.first, r.ls.dropLast, popP r.ps⟩, r.ls[m], 0) := by
      unfold popG
      rw [if_neg hne, List.getLastD_eq_getLast?, List.getLast?_eq_getElem?, hl, Nat.add_sub_cancel, List.getElem?_eq_getElem hdl, Option.getD_some]
    have hld : Hid (r.ls.dropLast = r.ls.take m) := hide (by rw [List.dropLast_eq_take, hl]; rfl)
    rw [e0, hps, popP_last]
    obtain ⟨PS, hPS⟩ : ∃ PS, (if q.n - 1 = 0 then qs else qs ++ [⟨q.gone, q.n - 1⟩]) = PS := ⟨_, rfl⟩
    rw [hPS]
    replace hPS := hide hPS
    have hC := hide (rcopy8_any r.limit r.places r.first a (m + 1) c ap np cp vs r.ps W0 (hr.rd.kept hk0 (by simp)) (hp.kept hk0 (by simp)) hn hnp)
    have hA0 := hide hr.at'
    have hat := hide (hr.at'.get m hdv hdl)
    have hmem := hide (List.getElem_mem hdv)
    have hLt := hide hr.at'.lt
    rw [hps] at hC
    generalize r.ls[m] = y at *
    generalize hvv : vs[m] = v at *
    have hw1 : IntKind.i64.wrap (((m + 1 : Nat) : Int) - 1) = (m : Int) := by rw [IntKind.wrap_i64]; omega
    have hw1b : IntKind.i64.wrap ((m : Int) + 1 - 1) = (m : Int) := by rw [IntKind.wrap_i64]; omega
    have hdi : (m : Int) < (m : Int) + 1 := by omega
    obtain ⟨J, hJ⟩ : ∃ J, qs.length = J := ⟨_, rfl⟩
    rw [hJ] at hqn
    obtain rfl : np = J + 1 := by omega
    have hw2b : IntKind.i64.wrap ((J : Int) + 1 - 1) = (J : Int) := by rw [IntKind.wrap_i64]; omega
    have hji : (J : Int) < (J : Int) + 1 := by omega
    have hnz2 : (((m : Int) + 1) == 0) = false := by simp; omega
    have t3 : IntKind.i64.wrap ((q.n : Int) - 1) = ((q.n - 1 : Nat) : Int) := by rw [IntKind.wrap_i64]; omega
    clear hr hp hs hf e0 hne h0 hpn hqn hl hvl hdl
    replace hps := hide hps
    replace hvv := hide hvv
    replace hq := hide hq
    go_enter Tryz.func29, Tryz.ntmps29
    go_upto_region 1 with fail
    rw [← hW0]
    clear hW0
    go_wp2_with fail
    refine hC.out.mono ?_
    rintro e w1 ⟨a1, c1, a3, c3, rfl, ho1, ho3, hdis, hk1⟩
    clear q0 q1 q2 q3 q4
    go_upto_region 4 with (refine wpList_store_rg rfl rfl rfl w.heap.size rfl (hb0.out.kept hk1 (by simp)) r.limit r.places r.first a1 (m + 1) c1 a3 (J + 1) c3 rfl ?_; intro w2 hb2 j2)
    have hge1 := hide (fun y (hy : y ∈ blk a1) => (ho1.ge y hy).1)
    have hge3 := hide (fun y (hy : y ∈ blk a3) => (ho3.ge y hy).1)
    have hlt1 := hide (fun y (hy : y ∈ blk a1) => (ho1.ge y hy).2)
    have hlt3 := hide (fun y (hy : y ∈ blk a3) => (ho3.ge y hy).2)
    have hL2 : Mid w2 a1 (m + 1) c1 2 (rowsV lnV vs) := (ho1.kept j2 (fun y hy hm => by simp at hm; have := hge1.out y hy; omega)).mid
    have hP2 : Mid w2 a3 (J + 1) c3 2 (rowsV paV (qs ++ [q])) := (ho3.kept j2 (fun y hy hm => by simp at hm; have := hge3.out y hy; omega)).mid
    obtain ⟨g1, o1, rfl⟩ := hL2.rd.rowAddr rowLn (by omega)
    obtain ⟨g3, o3, rfl⟩ := hP2.rd.rowAddr rowPa (by simp)
    have hg1 : g1 ∈ blk (some ⟨g1, o1, none⟩) := by simp [blk]
    have hg3 : g3 ∈ blk (some ⟨g3, o3, none⟩) := by simp [blk]
    have hg1w := hge1.out g1 hg1
    have hg3w := hge3.out g3 hg3
    have hg13 : g1 ≠ g3 := fun e => hdis g1 hg1 (by rw [e]; exact hg3)
    have hk2 : Hid (Kept [] w w2) := hide ((hk0.trans hk1 (by simp)).trans j2 (by intro y hy; simp at hy; omega))
    have hz2 := hide ((hz0.out.kept hk1 (by simp)).kept j2 (by simp))
    have hy2 := hide ((hy0.out.kept hk1 (by simp)).kept j2 (by simp <;> omega))
    have hrow : w2.rangeAt g1 (o1 + m * 2) (lnV vs[m]) := hL2.rd.row rowLn m hdv
    rw [hvv.out] at hrow
    obtain ⟨hcut, hcutm⟩ := mid_slice_h (P := Tryz.prog) rowLn Tryz.underlying30 szLr w2 (some ⟨g1, o1, none⟩) (m + 1) c1 m vs hL2 (by omega)
    have hL2 := hide hL2
    have hP2 := hide hP2
    have hcutm := hide hcutm
    have hsz := hide (show W0.heap.size ≤ w2.heap.size by have h1 := hk1.size; have h2 := j2.size; omega)
    have hg1l := hide (show g1 < w2.heap.size by have h1 := hlt1.out g1 hg1; have h2 := j2.size; omega)
    have hg3l := hide (show g3 < w2.heap.size by have h1 := hlt3.out g3 hg3; have h2 := j2.size; omega)
    clear ho1 ho3 hC hb0 hz0 hy0 j2 hk1 hdis hlt1 hlt3
    obtain ⟨q0, q1, q2, q3, q4⟩ := hb2.at
    go_upto_region 5 with (first | refine wpList_load_mid rfl 36 _ rfl g1 (o1 + m * 2) rfl (lnV v) _ hrow Tryz.underlying36 rfl (by kernel_rfl) ?_ | refine wpList_store_lin rfl rfl rfl w2.heap.size rfl (LinIn.new w2 none 0 0 false) v.a v.n v.c v.s rfl ?_; intro w3 hb3 j3)
    have hh3 : Kept [] w2 w3 := ((Kept.refl [] w2).alloc (.cells #[.slice none 0 0, .bool false] 36)).trans j3 (by simp)
    have i3 := hb2.kept hh3 (by simp)
    have hf3 := i3.froz 3
    clear q0 q1 q2 q3 q4 hrow j3
    obtain ⟨q0, q1, q2, q3, q4⟩ := i3.at
    go_upto_region 6 with fail
    have i4 := i3.setL (some ⟨g1, o1, none⟩) m c1
    have j4 : Kept [w.heap.size] w3 (w3.setCell ⟨w.heap.size, 3, none⟩ (.slice (some ⟨g1, o1, none⟩) m c1)) := (Kept.refl _ _).setCell (.inl (by simp)) _
    clear q0 q1 q2 q3 q4 hf3 i3
    generalize w3.setCell ⟨w.heap.size, 3, none⟩ (.slice (some ⟨g1, o1, none⟩) m c1) = w4 at *
    have hh4 : Kept [w.heap.size] w2 w4 := (hh3.mono (by simp)).trans j4 (fun y hy => .inl hy)
    obtain ⟨q0, q1, q2, q3, q4⟩ := i4.at
    have hP4 := hP2.out.kept hh4 (fun y hy hm => by have h1 := blkC_is hy; subst h1; simp at hm; omega)
    have hL4 := (hcutm.out w2 _ hL2.out).kept hh4 (fun y hy hm => by have h1 := blkC_is hy; subst h1; simp at hm; omega)
    obtain ⟨d1, z1⟩ := hP4.cellLast rowPa (j := 1) (u := .int .i64 (q.n : Nat)) rfl
    rw [hJ] at d1 z1
    rw [← Nat.add_assoc] at d1 z1
    go_upto_region 8 with fail
    have hP5 := hP4.setLast rowPa (j := 1) (v := .int .i64 ((q.n - 1 : Nat) : Int)) (d := ⟨q.gone, q.n - 1⟩) (by decide) (by simp [paV])
    rw [hJ, ← Nat.add_assoc] at hP5
    have j5 : Kept [g3] w4 (w4.setCell ⟨g3, o3 + J * 2 + 1, none⟩ (.int .i64 ((q.n - 1 : Nat) : Int))) := (Kept.refl _ _).setCell (.inl (by simp)) _
    have i5 := i4.kept j5 (by simp; omega)
    have hL5 := hL4.kept j5 (fun y hy hm => by have h1 := blkC_is hy; subst h1; simp at hm; exact hg13 hm)
    clear q0 q1 q2 q3 q4 d1 z1 i4 hP4 hL4
    generalize w4.setCell ⟨g3, o3 + J * 2 + 1, none⟩ (.int .i64 ((q.n - 1 : Nat) : Int)) = w5 at *
    have hh5 : Kept [w.heap.size, g3] w2 w5 := (hh4.mono (fun y hy => .inl (by simp at hy; simp [hy]))).trans j5 (fun y hy => .inl (by simp at hy; simp [hy]))
    have hbx5 := (hb3.kept j4 (by simp; have := hsz.out; omega)).kept j5 (by simp; have := hg3l.out; omega)
    obtain ⟨q0, q1, q2, q3, q4⟩ := i5.at
    obtain ⟨d1, z1⟩ := hP5.cellLast rowPa (j := 1) (u := .int .i64 ((q.n - 1 : Nat) : Int)) rfl
    rw [hJ, ← Nat.add_assoc] at d1 z1
    have hz5 := hide (hz2.out.kept hh5 (by simp; omega))
    have hy5 := hide (hy2.out.kept hh5 (by simp; omega))
    have hk5 : Kept [] w w5 := hk2.out.trans hh5 (fun y hy => .inr (by simp at hy; omega))
    have hat5 := hide (hat.out.kept hk5 (by simp))
    have hA5 := hide ((hA0.out.kept hk5 (by simp)).take m)
    have hvl5 : ∀ y ∈ blkN v.a v.n, y ∈ blks vs := blks_mem hmem.out
    have fin : ∀ (w9 : World) (ap' : Option Addr) (np' cp' : Nat), Kept [w.heap.size, w.heap.size + 1, w.heap.size + 1 + 1] w5 w9 → Rd w9 ap' np' 2 (rowsV paV PS) → np' ≤ cp' → cp' ≤ maxLen → (∀ y ∈ blkN ap' np', y = g3) → RgGive3 w a (m + 1) vs ap (J + 1) (⟨r.limit, r.places, r.first, r.ls.dropLast, PS⟩, y, 0) (.returned (.tuple #[.agg #[.int .i64 (r.limit : Nat), .int .i64 (r.places : Nat), .int .i64 (r.first : Nat), .slice (some ⟨g1, o1, none⟩) m c1, .slice ap' np' cp'], .agg #[.slice v.a v.n v.c, .bool v.s], .int .i64 0])) w9 := by
      intro w9 ap' np' cp' hk h1 h2 h3 h4
      have hLt' := hLt.out
      have e2 : ∀ y ∈ blks (vs.take m), y ∈ blks vs := blks_sub (fun z hz => List.mem_of_mem_take hz)
      refine ⟨some ⟨g1, o1, none⟩, m, c1, vs.take m, ap', np', cp', v, rfl, ⟨hL5.rd.keptN hk (fun y hy hm => ?_), ?_⟩, h1, hL5.caps.1, hL5.caps.2, h2, h3, hat5.out.kept hk (fun y hy hm => ?_), hk5.trans hk (fun y hy => .inr (by simp at hy; omega)), fun y hy => .inr ?_, fun y hy => .inr ?_, fun y hy => .inl (e2 y hy), hvl5⟩
      · have := blkN_sub' hy
        simp [blk] at this
        simp at hm
        omega
      · rw [hld.out]
        exact hA5.out.kept hk (fun y hy hm => by simp at hm; have := hLt' y (e2 y hy); omega)
      · simp at hm
        have := hLt' y (hvl5 y hy)
        omega
      · have := blkN_sub' hy
        simp [blk] at this
        have := hk0.size
        omega
      · have := h4 y hy
        have := hk0.size
        omega
    have fin := hide fin
    have hcp := hP5.caps
    by_cases hp0 : q.n - 1 = 0
    · have e1 : ((((q.n - 1 : Nat) : Int)) == 0) = true := by simp [hp0]
      have e2 := hPS.out
      rw [if_pos hp0] at e2
      obtain ⟨hcut5, hcutm5⟩ := mid_slice_h (P := Tryz.prog) rowPa Tryz.underlying31 szPa w5 (some ⟨g3, o3, none⟩) (J + 1) c3 J _ hP5 (by omega)
      have hP6 := hcutm5 w5 _ hP5
      rw [List.take_append_of_le_length (by omega), List.take_of_length_le (by omega)] at hP6
      rw [e2] at hP6
      replace hp0 := hide hp0
      replace e2 := hide e2
      have hf4 := i5.froz 4
      go_upto_region 10 with fail
      have i6 := i5.setP (some ⟨g3, o3, none⟩) J c3
      have j6 : Kept [w.heap.size] w5 (w5.setCell ⟨w.heap.size, 4, none⟩ (.slice (some ⟨g3, o3, none⟩) J c3)) := (Kept.refl _ _).setCell (.inl (by simp)) _
      clear q0 q1 q2 q3 q4 d1 z1 hf4
      generalize w5.setCell ⟨w.heap.size, 4, none⟩ (.slice (some ⟨g3, o3, none⟩) J c3) = w6 at *
      have i6 := i6
      have hz6 := hz5.out.kept j6 (by simp)
      have hy6 := hy5.out.kept j6 (by simp; omega)
      have hbx6 := hbx5.kept j6 (by simp; have := hsz.out; omega)
      have hP6' := hP6.kept j6 (fun y hy hm => by have h1 := blkC_is hy; subst h1; simp at hm; omega)
      have hy7 := hy6.kept (Kept.refl [] _).drew (by simp)
      have i7 := i6.kept (Kept.refl [] _).drew (by simp)
      have hbx7 := hbx6.kept (Kept.refl [] _).drew (by simp)
      refine wp_region_held_drew (S := (fun W => RgIn W w.heap.size r.limit r.places r.first (some ⟨g1, o1, none⟩) m c1 (some ⟨g3, o3, none⟩) J c3 ∧ LinIn W w2.heap.size v.a v.n v.c v.s)) (by kernel_rfl) ?_ (fun hHeld => ?_)
      · (try dsimp only); (first | exact hS10 | exact hS9 | exact And.intro i6 hbx6)
      refine wpAnyH_take (i := 0) (v := (.agg #[.int .i64 (r.limit : Nat), .int .i64 (r.places : Nat), .int .i64 (r.first : Nat), .slice (some ⟨g1, o1, none⟩) m c1, .slice (some ⟨g3, o3, none⟩) J c3])) rfl (by kernel_rfl) (by kernel_rfl) (by kernel_rfl) (fun _ _ _ h => h) (yieldsIf_load_mid (by rfl) 33 _ rfl w.heap.size 0 rfl (rgL r.limit r.places r.first (some ⟨g1, o1, none⟩) m c1 (some ⟨g3, o3, none⟩) J c3) _ (fun _ h => h.1.range) Tryz.underlying33 rfl (by kernel_rfl)) (by assumption) ?_
      try simp only [Act.put, List.getElem_toArray, List.getElem_cons_zero, List.setIfInBounds_toArray, List.set_cons_zero, List.set_cons_succ]
      refine wpAnyH_take (i := 1) (v := (.agg #[.slice v.a v.n v.c, .bool v.s])) rfl (by kernel_rfl) (by kernel_rfl) (by kernel_rfl) (fun _ _ _ h => h) (yieldsIf_load_mid (by rfl) 36 _ rfl w2.heap.size 0 rfl (linL v.a v.n v.c v.s) _ (fun _ h => h.2.range) Tryz.underlying36 rfl (by kernel_rfl)) (by assumption) ?_
      try simp only [Act.put, List.getElem_toArray, List.getElem_cons_succ, List.getElem_cons_zero, List.setIfInBounds_toArray, List.set_cons_zero, List.set_cons_succ]
      refine wpAnyH_ready (rs := [2]) (by kernel_rfl) (by simp) ?_
      refine AllReadyH.cons rfl (fun K hK => ?_) AllReadyH.nil
      rw [if_pos (by rfl)]
      refine wp_store_rg rfl rfl (w.heap.size + 1) rfl hz6 r.limit r.places r.first (some ⟨g1, o1, none⟩) m c1 (some ⟨g3, o3, none⟩) J c3 rfl ?_; intro w9 hb99 j9; have hS9 := And.intro (i7.kept j9 (by simp)) (hbx7.kept j9 (by simp; have := hsz.out; omega))
      refine hK.out _ _ ?_ (fun hHeld => ?_)
      · (try dsimp only); (first | exact hS10 | exact hS9 | exact And.intro i6 hbx6)
      clear hK K
      try simp only [Act.put, List.getElem_toArray, List.getElem_cons_succ, List.getElem_cons_zero, List.setIfInBounds_toArray, List.set_cons_zero, List.set_cons_succ]
      refine wpAnyH_ready (rs := [3]) (by kernel_rfl) (by simp) ?_
      refine AllReadyH.cons rfl (fun K hK => ?_) AllReadyH.nil
      rw [if_pos (by rfl)]
      refine wp_store_lin rfl rfl (w.heap.size + 1 + 1) rfl (hy7.kept j9 (by simp)) v.a v.n v.c v.s rfl ?_; intro w10 hb10 j10; have hS10 := And.intro (hS9.1.kept j10 (by simp <;> omega)) (hS9.2.kept j10 (by simp; have := hsz.out; omega))
      refine hK.out _ _ ?_ (fun hHeld => ?_)
      · (try dsimp only); (first | exact hS10 | exact hS9 | exact And.intro i6 hbx6)
      clear hK K
      try simp only [Act.put, List.getElem_toArray, List.getElem_cons_succ, List.getElem_cons_zero, List.setIfInBounds_toArray, List.set_cons_zero, List.set_cons_succ]
      refine wpAnyH_take (i := 4) (v := ?_) rfl (by kernel_rfl) (by kernel_rfl) (by kernel_rfl) (fun _ _ _ h => h) (Or.inl ⟨by rfl, ?_⟩) (by assumption) ?_
      rotate_left
      · (intro wq hSw; (try dsimp only at hSw); go_simp; try with_reducible rfl)
      try simp only [Act.put, List.getElem_toArray, List.getElem_cons_succ, List.getElem_cons_zero, List.setIfInBounds_toArray, List.set_cons_zero, List.set_cons_succ]
      refine wpAnyH_done (by kernel_rfl) ?_ _
      go_wp2_with fail
      refine bodyPost_ret (results_rg3 rfl rfl rfl (hb99.kept j10 (by simp)) hb10 rfl) rfl ?_
      have hk9 : Kept [w.heap.size, w.heap.size + 1, w.heap.size + 1 + 1] w6 w10 := (((Kept.refl [] _).drew.mono (by simp)).trans j9 (fun y hy => .inl (by simp at hy; simp [hy]))).trans j10 (fun y hy => .inl (by simp at hy; simp [hy]))
      exact fin.out w10 (some ⟨g3, o3, none⟩) J c3 ((j6.mono (by simp)).trans hk9 (fun y hy => .inl hy)) ((hP6'.kept hk9 (fun y hy hm => by have h1 := blkC_is hy; subst h1; simp at hm; omega)).rd) (by omega) hP6.caps.2 (fun y hy => by have := blkN_sub' hy; simpa [blk] using this)
    · have e1 : ((((q.n - 1 : Nat) : Int)) == 0) = false := by simp; omega
      have e2 := hPS.out
      rw [if_neg hp0] at e2
      rw [e2] at hP5
      replace hp0 := hide hp0
      replace e2 := hide e2
      go_upto_region 10 with fail
      clear d1 z1
      have i6 := i5
      have hz6 := hz5.out
      have hy6 := hy5.out
      have hbx6 := hbx5
      have hy7 := hy6.kept (Kept.refl [] _).drew (by simp)
      have i7 := i6.kept (Kept.refl [] _).drew (by simp)
      have hbx7 := hbx6.kept (Kept.refl [] _).drew (by simp)
      refine wp_region_held_drew (S := (fun W => RgIn W w.heap.size r.limit r.places r.first (some ⟨g1, o1, none⟩) m c1 (some ⟨g3, o3, none⟩) (J + 1) c3 ∧ LinIn W w2.heap.size v.a v.n v.c v.s)) (by kernel_rfl) ?_ (fun hHeld => ?_)
      · (try dsimp only); (first | exact hS10 | exact hS9 | exact And.intro i6 hbx6)
      refine wpAnyH_take (i := 0) (v := (.agg #[.int .i64 (r.limit : Nat), .int .i64 (r.places : Nat), .int .i64 (r.first : Nat), .slice (some ⟨g1, o1, none⟩) m c1, .slice (some ⟨g3, o3, none⟩) (J + 1) c3])) rfl (by kernel_rfl) (by kernel_rfl) (by kernel_rfl) (fun _ _ _ h => h) (yieldsIf_load_mid (by rfl) 33 _ rfl w.heap.size 0 rfl (rgL r.limit r.places r.first (some ⟨g1, o1, none⟩) m c1 (some ⟨g3, o3, none⟩) (J + 1) c3) _ (fun _ h => h.1.range) Tryz.underlying33 rfl (by kernel_rfl)) (by assumption) ?_
      try simp only [Act.put, List.getElem_toArray, List.getElem_cons_zero, List.setIfInBounds_toArray, List.set_cons_zero, List.set_cons_succ]
      refine wpAnyH_take (i := 1) (v := (.agg #[.slice v.a v.n v.c, .bool v.s])) rfl (by kernel_rfl) (by kernel_rfl) (by kernel_rfl) (fun _ _ _ h => h) (yieldsIf_load_mid (by rfl) 36 _ rfl w2.heap.size 0 rfl (linL v.a v.n v.c v.s) _ (fun _ h => h.2.range) Tryz.underlying36 rfl (by kernel_rfl)) (by assumption) ?_
      try simp only [Act.put, List.getElem_toArray, List.getElem_cons_succ, List.getElem_cons_zero, List.setIfInBounds_toArray, List.set_cons_zero, List.set_cons_succ]
      refine wpAnyH_ready (rs := [2]) (by kernel_rfl) (by simp) ?_
      refine AllReadyH.cons rfl (fun K hK => ?_) AllReadyH.nil
      rw [if_pos (by rfl)]
      refine wp_store_rg rfl rfl (w.heap.size + 1) rfl hz6 r.limit r.places r.first (some ⟨g1, o1, none⟩) m c1 (some ⟨g3, o3, none⟩) (J + 1) c3 rfl ?_; intro w9 hb99 j9; have hS9 := And.intro (i7.kept j9 (by simp)) (hbx7.kept j9 (by simp; have := hsz.out; omega))
      refine hK.out _ _ ?_ (fun hHeld => ?_)
      · (try dsimp only); (first | exact hS10 | exact hS9 | exact And.intro i6 hbx6)
      clear hK K
      try simp only [Act.put, List.getElem_toArray, List.getElem_cons_succ, List.getElem_cons_zero, List.setIfInBounds_toArray, List.set_cons_zero, List.set_cons_succ]
      refine wpAnyH_ready (rs := [3]) (by kernel_rfl) (by simp) ?_
      refine AllReadyH.cons rfl (fun K hK => ?_) AllReadyH.nil
      rw [if_pos (by rfl)]
      refine wp_store_lin rfl rfl (w.heap.size + 1 + 1) rfl (hy7.kept j9 (by simp)) v.a v.n v.c v.s rfl ?_; intro w10 hb10 j10; have hS10 := And.intro (hS9.1.kept j10 (by simp <;> omega)) (hS9.2.kept j10 (by simp; have := hsz.out; omega))
      refine hK.out _ _ ?_ (fun hHeld => ?_)
      · (try dsimp only); (first | exact hS10 | exact hS9 | exact And.intro i6 hbx6)
      clear hK K
      try simp only [Act.put, List.getElem_toArray, List.getElem_cons_succ, List.getElem_cons_zero, List.setIfInBounds_toArray, List.set_cons_zero, List.set_cons_succ]
      refine wpAnyH_take (i := 4) (v := ?_) rfl (by kernel_rfl) (by kernel_rfl) (by kernel_rfl) (fun _ _ _ h => h) (Or.inl ⟨by rfl, ?_⟩) (by assumption) ?_
      rotate_left
      · (intro wq hSw; (try dsimp only at hSw); go_simp; try with_reducible rfl)
      try simp only [Act.put, List.getElem_toArray, List.getElem_cons_succ, List.getElem_cons_zero, List.setIfInBounds_toArray, List.set_cons_zero, List.set_cons_succ]
      refine wpAnyH_done (by kernel_rfl) ?_ _
      go_wp2_with fail
      refine bodyPost_ret (results_rg3 rfl rfl rfl (hb99.kept j10 (by simp)) hb10 rfl) rfl ?_
      have hk9 : Kept [w.heap.size, w.heap.size + 1, w.heap.size + 1 + 1] w5 w10 := (((Kept.refl [] _).drew.mono (by simp)).trans j9 (fun y hy => .inl (by simp at hy; simp [hy]))).trans j10 (fun y hy => .inl (by simp at hy; simp [hy]))
      exact fin.out w10 (some ⟨g3, o3, none⟩) (J + 1) c3 hk9 ((hP5.kept hk9 (fun y hy hm => by have h1 := blkC_is hy; subst h1; simp at hm; omega)).rd) hP5.caps.1 hP5.caps.2 (fun y hy => by have := blkN_sub' hy; simpa [blk] using this)
end Go.Proofs.YtnkddhmhjnhgcaaGreatDoor
namespace Go.Proofs.YtnkddhmhjnhgcaaGreatDoor
open Go.RowKit
set_option linter.unusedVariables false
set_option maxRecDepth 100000

theorem blks_set {vs : List LnA} {d : Nat} {u : LnA} {y : Nat} (hy : y ∈ blks (vs.set d u)) : y ∈ blks vs ∨ y ∈ blkN u.a u.n := by
  obtain ⟨v, hv, hg⟩ := List.mem_flatMap.1 hy
  rcases List.mem_or_eq_of_mem_set hv with h | rfl
  · exact .inl (blks_mem h y hg)
  · exact .inr hg
set_option maxHeartbeats 8000000 in
theorem rSet8_any (r : Rg) (k : Int) (x : Ln) (u : LnA) (a : Option Addr) (n c : Nat) (vs : List LnA) (ap : Option Addr) (np cp : Nat) (w : World) (hr : LnsR w a n vs r.ls) (hp : Rd w ap np 2 (rowsV paV r.ps)) (hx : LnAt w u x) (hnc : n ≤ c) (hcm : c ≤ maxLen) (hnc2 : np ≤ cp) (hcm2 : cp ≤ maxLen) (hn : n ≤ 10000000) (hnp : np ≤ 10000000) (hb : r.first + n ≤ 1000000000) :
    Calls Tryz.prog 30 #[.agg #[.int .i64 (r.limit : Nat), .int .i64 (r.places : Nat), .int .i64 (r.first : Nat), .slice a n c, .slice ap np cp], .int .i64 k, .agg #[.slice u.a u.n u.c, .bool u.s]] w (RgGive2 w a n vs ap np (setG r k x).1 (setG r k x).2) := by
  obtain ⟨W0, hW0⟩ : ∃ z : World, z = ((w.alloc (.cells #[.int .i64 (r.limit : Nat), .int .i64 (r.places : Nat), .int .i64 (r.first : Nat), .slice a n c, .slice ap np cp] 33)).alloc (.cells #[.slice u.a u.n u.c, .bool u.s] 36)).alloc (.cells #[.int .i64 0, .int .i64 0, .int .i64 0, .slice none 0 0, .slice none 0 0] 33) := ⟨_, rfl⟩
  have hk0 : Kept [] w W0 := by rw [hW0]; exact (((Kept.refl [] w).alloc _).alloc _).alloc _
  have hb0 : Hid (RgIn W0 w.heap.size r.limit r.places r.first a n c ap np cp) := hide (by rw [hW0]; exact (RgIn.new w r.limit r.places r.first a n c ap np cp).kept (((Kept.refl [] _).alloc _).alloc _) (by simp))
  have hy0 : Hid (LinIn W0 (w.heap.size + 1) u.a u.n u.c u.s) := hide (by rw [hW0]; exact LinIn.kept (heap_new_at (by simp)) ((Kept.refl [] _).alloc _) (by simp))
  have hz0 : Hid (RgIn W0 (w.heap.size + 1 + 1) 0 0 0 none 0 0 none 0 0) := hide (by rw [hW0]; exact heap_new_at (by simp))
  have hs0 : w.heap.size + 1 + 1 < W0.heap.size := hz0.out.lt
  have bad : ∀ (z : Int) w5, Kept [] w w5 → RgGive2 w a n vs ap np r z (.returned (.tuple #[.agg #[.int .i64 (r.limit : Nat), .int .i64 (r.places : Nat), .int .i64 (r.first : Nat), .slice a n c, .slice ap np cp], .int .i64 z])) w5 := fun z w5 hk => ⟨a, n, c, vs, ap, np, cp, rfl, hr.kept hk (by simp) (by simp), hp.kept hk (by simp), hnc, hcm, hnc2, hcm2, hk, fun y hy => .inl hy, fun y hy => .inl hy, fun y hy => .inl hy⟩
  have bad := hide bad
  have hl := hr.len
  have hvl := hr.vlen
  have hV := hide (rValid6_any u.a u.n u.c u.s x.l W0 (hx.rd.kept hk0 (by simp)))
  have hAt := hide (fun w1 => rat8_any r k a n c ap np cp w1 hl hb)
  have hC := hide (fun w1 (hk : Kept [] W0 w1) => rcopy8_any r.limit r.places r.first a n c ap np cp vs r.ps w1 (hr.rd.kept (hk0.trans hk (by simp)) (by simp)) (hp.kept (hk0.trans hk (by simp)) (by simp)) hn hnp)
  have hX := hide hx
  have hA0 := hide hr.at'
  have hLt := hide hr.at'.lt
  have hxl := hx.len
  clear hr hp hx
  obtain ⟨l0, l1⟩ := hy0.out.at
  by_cases hv : validL x.l = false
  · have e0 : setG r k x = (r, 2) := by unfold setG; rw [if_pos hv]
    rw [e0]
    rw [hv] at hV
    clear e0
    go_enter Tryz.func30, Tryz.ntmps30
    go_upto_region 1 with fail
    rw [← hW0]
    clear hW0
    go_wp2_with fail
    refine hV.out.mono ?_
    rintro e w1 ⟨rfl, hk1⟩
    obtain ⟨q0, q1, q2, q3, q4⟩ := (hb0.out.kept hk1 (by simp)).at
    go_wp2_with (refine wpList_store_rg rfl rfl rfl (w.heap.size + 1 + 1) rfl (hz0.out.kept hk1 (by simp)) r.limit r.places r.first a n c ap np cp rfl ?_; intro w5 hb5 j5)
    refine bodyPost_ret (results_rg2 rfl rfl hb5 rfl) rfl ?_
    exact bad.out 2 _ ((hk0.trans hk1 (by simp)).trans j5 (by intro y hy; simp at hy; omega))
  · have hv' : validL x.l = true := by simpa using hv
    rw [hv'] at hV
    have hvl6 := valid_len hv'
    by_cases h0 : atG r k = 0
    · have e0 : setG r k x = (⟨r.limit, r.places, r.first, r.ls.set (k.toNat - r.first) x, r.ps⟩, 0) := by unfold setG; rw [if_neg hv, if_pos h0]
      obtain ⟨z1, z2, z3⟩ := at_zero h0
      have hnx : r.next = r.first + n := by unfold Rg.next; rw [hl]
      obtain ⟨d, hd⟩ : ∃ d : Nat, k.toNat - r.first = d := ⟨_, rfl⟩
      have hdn : d < n := by omega
      have hdv : d < vs.length := by omega
      have hkd : IntKind.i64.wrap (k - (r.first : Int)) = (d : Int) := by rw [IntKind.wrap_i64]; omega
      have hdi : (d : Int) < (n : Int) := by omega
      rw [hd] at e0
      rw [e0]
      rw [h0] at hAt
      clear e0 z1 z2 z3 hnx
      replace h0 := hide h0
      replace hd := hide hd
      replace hv := hide hv
      replace hv' := hide hv'
      go_enter Tryz.func30, Tryz.ntmps30
      go_upto_region 1 with fail
      rw [← hW0]
      clear hW0
      go_wp2_with fail
      refine hV.out.mono ?_
      rintro e w1 ⟨rfl, hk1⟩
      obtain ⟨q0, q1, q2, q3, q4⟩ := (hb0.out.kept hk1 (by simp)).at
      go_wp2_with fail
      refine (hAt.out _).mono ?_
      rintro e w2 ⟨rfl, hj2⟩
      have hk2 := hk1.trans hj2 (by simp)
      clear q0 q1 q2 q3 q4
      obtain ⟨q0, q1, q2, q3, q4⟩ := (hb0.out.kept hk2 (by simp)).at
      go_wp2_with fail
      refine (hC.out w2 hk2).mono ?_
      rintro e w3 ⟨a1, c1, a3, c3, rfl, ho1, ho3, hdis, hj3⟩
      have hk3 := hk2.trans hj3 (by simp)
      clear q0 q1 q2 q3 q4
      go_upto_region 7 with (refine wpList_store_rg rfl rfl rfl w.heap.size rfl (hb0.out.kept hk3 (by simp)) r.limit r.places r.first a1 n c1 a3 np c3 rfl ?_; intro w4 hb4 j4)
      have hw2 := hk2.size
      have hge1 := hide (fun y (hy : y ∈ blk a1) => (ho1.ge y hy).1)
      have hge3 := hide (fun y (hy : y ∈ blk a3) => (ho3.ge y hy).1)
      have hM4 : Mid w4 a1 n c1 2 (rowsV lnV vs) := (ho1.kept j4 (fun y hy hm => by simp at hm; have := hge1.out y hy; omega)).mid
      have hP4 : Rd w4 a3 np 2 (rowsV paV r.ps) := (ho3.kept j4 (fun y hy hm => by simp at hm; have := hge3.out y hy; omega)).rd
      have hcp3 := ho3.caps
      obtain ⟨g1, o1, rfl⟩ := hM4.rd.rowAddr rowLn (by omega)
      have hg1 : g1 ∈ blk (some ⟨g1, o1, none⟩) := by simp [blk]
      have hg1w := hge1.out g1 hg1
      have hdis3 := hide (fun (hm : g1 ∈ blk a3) => hdis g1 hg1 hm)
      have hk4 : Hid (Kept [] w w4) := hide ((hk0.trans hk3 (by simp)).trans j4 (by intro y hy; simp at hy; omega))
      have hz4 := hide ((hz0.out.kept hk3 (by simp)).kept j4 (by simp <;> omega))
      have hy4 := (hy0.out.kept hk3 (by simp)).kept j4 (by simp <;> omega)
      have hs4 := hide (show W0.heap.size ≤ w4.heap.size by have h1 := hk3.size; have h2 := j4.size; omega)
      clear ho1 ho3 hdis l0 l1
      have hF : ∀ {W : World}, Kept [] w4 W → (W.cell? ⟨w.heap.size, 2, none⟩ = some (.int .i64 (r.first : Nat)) ∧ W.cell? ⟨w.heap.size, 3, none⟩ = some (.slice (some ⟨g1, o1, none⟩) n c1)) ∧ W.cell? ⟨w.heap.size + 1, 0, none⟩ = some (.slice u.a u.n u.c) ∧ W.cell? ⟨w.heap.size + 1, 1, none⟩ = some (.bool u.s) := fun hk => ⟨⟨(hb4.kept hk (by simp)).at.2.2.1, (hb4.kept hk (by simp)).at.2.2.2.1⟩, (hy4.kept hk (by simp)).at⟩
      have hCp := hide (fun w1 (hk : Kept [] w4 w1) => rCopy_any u.a u.n u.c u.s x.l w1 (hX.out.rd.kept (hk4.out.trans hk (by simp)) (by simp)) (by omega))
      have hMd := hide (fun w1 (hk : Kept [] w4 w1) => hM4.kept hk (by simp))
      refine wp_region_held_drew (S := (fun W => (W.cell? ⟨w.heap.size, 2, none⟩ = some (.int .i64 (r.first : Nat)) ∧ W.cell? ⟨w.heap.size, 3, none⟩ = some (.slice (some ⟨g1, o1, none⟩) n c1)) ∧ W.cell? ⟨w.heap.size + 1, 0, none⟩ = some (.slice u.a u.n u.c) ∧ W.cell? ⟨w.heap.size + 1, 1, none⟩ = some (.bool u.s))) (by kernel_rfl) ?_ (fun hHeld => ?_)
      · (try dsimp only); (first | exact hF6 | exact hF k5 | exact hF (Kept.refl [] w4).drew)
      refine wpAnyH_take (i := 0) (v := ?_) rfl (by kernel_rfl) (by kernel_rfl) (by kernel_rfl) (fun _ _ _ h => h) (Or.inl ⟨by rfl, ?_⟩) (by assumption) ?_
      rotate_left
      · (intro wq hSw; (try dsimp only at hSw); go_simp; try with_reducible rfl)
      try simp only [Act.put, List.getElem_toArray, List.getElem_cons_zero, List.setIfInBounds_toArray, List.set_cons_zero, List.set_cons_succ]
      refine wpAnyH_take (i := 1) (v := ?_) rfl (by kernel_rfl) (by kernel_rfl) (by kernel_rfl) (fun _ _ _ h => h) (Or.inl ⟨by rfl, ?_⟩) (by assumption) ?_
      rotate_left
      · (intro wq hSw; (try dsimp only at hSw); go_simp; try with_reducible rfl)
      try simp only [Act.put, List.getElem_toArray, List.getElem_cons_succ, List.getElem_cons_zero, List.setIfInBounds_toArray, List.set_cons_zero, List.set_cons_succ]
      refine wpAnyH_take (i := 2) (v := ?_) rfl (by kernel_rfl) (by kernel_rfl) (by kernel_rfl) (fun _ _ _ h => h) (Or.inl ⟨by rfl, ?_⟩) (by assumption) ?_
      rotate_left
      · (intro wq hSw; (try dsimp only at hSw); go_simp; try with_reducible rfl)
      try simp only [Act.put, List.getElem_toArray, List.getElem_cons_succ, List.getElem_cons_zero, List.setIfInBounds_toArray, List.set_cons_zero, List.set_cons_succ]
      refine wpAnyH_take (i := 3) (v := ?_) rfl (by kernel_rfl) (by kernel_rfl) (by kernel_rfl) (fun _ _ _ h => h) (Or.inl ⟨by rfl, ?_⟩) (by assumption) ?_
      rotate_left
      · (intro wq hSw; (try dsimp only at hSw); go_simp; try with_reducible rfl)
      try simp only [Act.put, List.getElem_toArray, List.getElem_cons_succ, List.getElem_cons_zero, List.setIfInBounds_toArray, List.set_cons_zero, List.set_cons_succ]
      refine wpAnyH_take (i := 4) (v := ?_) rfl (by kernel_rfl) (by kernel_rfl) (by kernel_rfl) (fun _ _ _ h => h) (Or.inl ⟨by rfl, ?_⟩) (by assumption) ?_
      rotate_left
      · (intro wq hSw; (try dsimp only at hSw); go_simp; try with_reducible rfl)
      try simp only [Act.put, List.getElem_toArray, List.getElem_cons_succ, List.getElem_cons_zero, List.setIfInBounds_toArray, List.set_cons_zero, List.set_cons_succ]
      refine wpAnyH_take (i := 5) (v := ?_) rfl (by kernel_rfl) (by kernel_rfl) (by kernel_rfl) (fun _ _ _ h => h) (Or.inl ⟨by rfl, ?_⟩) (by assumption) ?_
      rotate_left
      · (intro wq hSw; (try dsimp only at hSw); go_simp; try with_reducible rfl)
      try simp only [Act.put, List.getElem_toArray, List.getElem_cons_succ, List.getElem_cons_zero, List.setIfInBounds_toArray, List.set_cons_zero, List.set_cons_succ]
      refine wpAnyH_take (i := 6) (v := ?_) rfl (by kernel_rfl) (by kernel_rfl) (by kernel_rfl) (fun _ _ _ h => h) (Or.inl ⟨by rfl, ?_⟩) (by assumption) ?_
      rotate_left
      · (intro wq hSw; (try dsimp only at hSw); go_simp; try with_reducible rfl)
      try simp only [Act.put, List.getElem_toArray, List.getElem_cons_succ, List.getElem_cons_zero, List.setIfInBounds_toArray, List.set_cons_zero, List.set_cons_succ]
      refine wpAnyH_ready (rs := [7]) (by kernel_rfl) (by simp) ?_
      refine AllReadyH.cons rfl (fun K hK => ?_) AllReadyH.nil
      go_simp
      refine (hCp.out _ (Kept.refl [] w4).drew).mono ?_; rintro e w5 ⟨a5, n5, c5, rfl, ho5, h5a, h5b, j5⟩; have k5 : Kept [] w4 w5 := (Kept.refl [] w4).drew.trans j5 (by simp)
      try go_wp2_with fail
      refine hK.out _ _ ?_ (fun hHeld => ?_)
      · (try dsimp only); (first | exact hF6 | exact hF k5 | exact hF (Kept.refl [] w4).drew)
      clear hK K
      try simp only [Act.put, List.getElem_toArray, List.getElem_cons_succ, List.getElem_cons_zero, List.setIfInBounds_toArray, List.set_cons_zero, List.set_cons_succ]
      refine wpAnyH_take (i := 8) (v := ?_) rfl (by kernel_rfl) (by kernel_rfl) (by kernel_rfl) (fun _ _ _ h => h) (Or.inl ⟨by rfl, ?_⟩) (by assumption) ?_
      rotate_left
      · (intro wq hSw; (try dsimp only at hSw); go_simp; try with_reducible rfl)
      try simp only [Act.put, List.getElem_toArray, List.getElem_cons_succ, List.getElem_cons_zero, List.setIfInBounds_toArray, List.set_cons_zero, List.set_cons_succ]
      refine wpAnyH_ready (rs := [9]) (by kernel_rfl) (by simp) ?_
      refine AllReadyH.cons rfl (fun K hK => ?_) AllReadyH.nil
      rw [if_pos (by rfl)]
      refine wp_store_rowM rfl rfl (hMd.out w5 k5) d hdv rfl ⟨a5, n5, c5, u.s⟩ rfl ?_; intro w6 hm6 j6; have hF6 := And.intro (And.intro (j6.cell (hF k5).1.1 (by simp; omega)) (j6.cell (hF k5).1.2 (by simp; omega))) (And.intro (j6.cell (hF k5).2.1 (by simp; omega)) (j6.cell (hF k5).2.2 (by simp; omega)))
      refine hK.out _ _ ?_ (fun hHeld => ?_)
      · (try dsimp only); (first | exact hF6 | exact hF k5 | exact hF (Kept.refl [] w4).drew)
      clear hK K
      try simp only [Act.put, List.getElem_toArray, List.getElem_cons_succ, List.getElem_cons_zero, List.setIfInBounds_toArray, List.set_cons_zero, List.set_cons_succ]
      refine wpAnyH_done (by kernel_rfl) ?_ _
      have hk46 : Kept [g1] w4 w6 := (k5.mono (by simp)).trans j6 (fun y hy => .inl hy)
      obtain ⟨q0, q1, q2, q3, q4⟩ := (hb4.kept hk46 (by simp; omega)).at
      go_wp2_with (refine wpList_store_rg rfl rfl rfl (w.heap.size + 1 + 1) rfl (hz4.out.kept hk46 (by simp; omega)) r.limit r.places r.first (some ⟨g1, o1, none⟩) n c1 a3 np c3 rfl ?_; intro w9 hb9 j9)
      refine bodyPost_ret (results_rg2 rfl rfl hb9 rfl) rfl ?_
      have hw4 := hk4.out.size
      have hw0 := hs4.out
      have hwz := hz4.out.lt
      have hk9 : Kept [g1, w.heap.size + 1 + 1] w4 w9 := (hk46.mono (by simp)).trans j9 (fun y hy => .inl (by simp at hy; simp [hy]))
      have hW : Kept [] w w9 := hk4.out.trans hk9 (fun y hy => .inr (by simp at hy; omega))
      have hge5 : ∀ y ∈ blk a5, w4.heap.size ≤ y := fun y hy => (ho5.ge y hy).1
      have hg1l : g1 < w4.heap.size := by
        have := hM4.lt (by decide) g1 (by unfold blkC; rw [if_neg (by have := hM4.caps.1; omega)]; exact hg1)
        exact this
      have h59 : Kept [g1, w.heap.size + 1 + 1] w5 w9 := (j6.mono (by simp)).trans j9 (fun y hy => .inl (by simp at hy; simp [hy]))
      have hX9 : LnAt w9 ⟨a5, n5, c5, u.s⟩ x := ⟨ho5.rd.kept h59 (fun y hy hm => by have := hge5 y hy; simp at hm; omega), hX.out.s, h5a, h5b⟩
      refine ⟨some ⟨g1, o1, none⟩, n, c1, vs.set d ⟨a5, n5, c5, u.s⟩, a3, np, c3, rfl, ⟨hm6.rd.keptB j9 (fun hm => ?_), LnsAt.set hX9 d (hA0.out.kept hW (by simp))⟩, hP4.keptN hk9 (fun y hy hm => ?_), hM4.caps.1, hM4.caps.2, hcp3.1, hcp3.2, hW, fun y hy => .inr ?_, fun y hy => .inr ?_, fun y hy => ?_⟩
      · have := blkN_sub' hm
        simp [blk] at this
        omega
      · have h1 := blkN_sub' hy
        have h2 := hge3.out y h1
        simp at hm
        rcases hm with rfl | hm
        · exact hdis3.out h1
        · omega
      · have := blkN_sub' hy
        simp [blk] at this
        omega
      · have := hge3.out y (blkN_sub' hy)
        omega
      · rcases blks_set hy with h | h
        · exact .inl h
        · have := hge5 y (blkN_sub' h)
          exact .inr (by omega)
    · have e0 : setG r k x = (r, atG r k) := by unfold setG; rw [if_neg hv, if_neg h0]
      obtain ⟨z, hz⟩ : ∃ z : Int, atG r k = z := ⟨_, rfl⟩
      rw [hz] at e0 hAt
      have hz1 : (z != 0) = true := by rw [hz] at h0; simp [h0]
      rw [e0]
      clear e0 h0
      replace hz := hide hz
      replace hv := hide hv
      replace hv' := hide hv'
      go_enter Tryz.func30, Tryz.ntmps30
      go_upto_region 1 with fail
      rw [← hW0]
      clear hW0
      go_wp2_with fail
      refine hV.out.mono ?_
      rintro e w1 ⟨rfl, hk1⟩
      obtain ⟨q0, q1, q2, q3, q4⟩ := (hb0.out.kept hk1 (by simp)).at
      go_wp2_with fail
      refine (hAt.out _).mono ?_
      rintro e w2 ⟨rfl, hj2⟩
      have hk2 := hk1.trans hj2 (by simp)
      clear q0 q1 q2 q3 q4
      obtain ⟨q0, q1, q2, q3, q4⟩ := (hb0.out.kept hk2 (by simp)).at
      go_wp2_with (refine wpList_store_rg rfl rfl rfl (w.heap.size + 1 + 1) rfl (hz0.out.kept hk2 (by simp)) r.limit r.places r.first a n c ap np cp rfl ?_; intro w5 hb5 j5)
      refine bodyPost_ret (results_rg2 rfl rfl hb5 rfl) rfl ?_
      exact bad.out z _ ((hk0.trans hk2 (by simp)).trans j5 (by intro y hy; simp at hy; omega))
end Go.Proofs.YtnkddhmhjnhgcaaGreatDoor
namespace Go.Proofs.YtnkddhmhjnhgcaaGreatDoor
open Go.RowKit
set_option linter.unusedVariables false
set_option maxRecDepth 100000

theorem push_fin8 {w w8 w9 w10 : World} {B lim pl fi n np M c1 c4 n5 c5 c8 : Nat} {ls : List Ln} {x : Ln} {PS : List Pa} {a ap a1 a4 a5 a8 : Option Addr} {vs : List LnA} {s : Bool}
    (h8 : Kept [] w w8) (i8 : RgIn w8 w.heap.size lim pl fi a1 n c1 a4 M c4) (z8 : RgIn w8 (w.heap.size + 1 + 1) 0 0 0 none 0 0 none 0 0) (hB : w.heap.size + 1 + 1 < B) (hB8 : B ≤ w8.heap.size)
    (hA : LnsAt w vs ls) (p8 : Mid w8 a4 M c4 2 (rowsV paV PS)) (hd : ∀ y ∈ blkC a4 c4, y ∉ blk a1 ∧ B ≤ y) (hg1 : ∀ y ∈ blk a1, B ≤ y ∧ y < w8.heap.size)
    (k9 : Kept [] w8 w9) (o9 : Own w9 w8.heap.size 86 a5 n5 c5 16 (cellsV x.l)) (h5a : n5 ≤ c5) (h5b : c5 ≤ maxLen) (hsx : s = x.s)
    (o10 : Own w10 B 36 a8 (n + 1) c8 2 (rowsV lnV vs ++ [.slice a5 n5 c5, .bool s])) (k10 : Kept (blk a1) w9 w10)
    (hsP : sumP PS = (ls ++ [x]).length) (hfP : fullP pl PS) (hn : n + 1 ≤ 10000000) (hM : M ≤ 10000000) (hfi : fi ≤ 1000000000) (hpl : pl ≤ 1024) :
    RgIn (w10.setCell ⟨w.heap.size, 3, none⟩ (.slice a8 (n + 1) c8)) w.heap.size lim pl fi a8 (n + 1) c8 a4 M c4 ∧
    Calls Tryz.prog 51 #[.agg #[.int .i64 (lim : Nat), .int .i64 (pl : Nat), .int .i64 (fi : Nat), .slice a8 ((n + 1 : Nat)) c8, .slice a4 M c4]] (w10.setCell ⟨w.heap.size, 3, none⟩ (.slice a8 (n + 1) c8)) fun e w12 =>
      ∃ l' p' f' a' n' c' ap' np' cp', e = .returned (.agg #[.int .i64 l', .int .i64 p', .int .i64 f', .slice a' n' c', .slice ap' np' cp']) ∧ RgIn w12 (w.heap.size + 1 + 1) 0 0 0 none 0 0 none 0 0 ∧
        ∀ w13, Kept [w.heap.size + 1 + 1] w12 w13 → RgGive2 w a n vs ap np ((⟨lim, pl, fi, ls ++ [x], PS⟩ : Rg).evict) 0 (.returned (.tuple #[.agg #[.int .i64 l', .int .i64 p', .int .i64 f', .slice a' n' c', .slice ap' np' cp'], .int .i64 0])) w13 := by
  have i10 := (i8.kept k9 (by simp)).kept k10 (fun hm => by have := (hg1 _ hm).1; omega)
  have i11 := i10.setL a8 (n + 1) c8
  have j11 : Kept [w.heap.size] w10 (w10.setCell ⟨w.heap.size, 3, none⟩ (.slice a8 (n + 1) c8)) := (Kept.refl _ _).setCell (.inl (by simp)) _
  refine ⟨i11, ?_⟩
  have z11 := ((z8.kept k9 (by simp)).kept k10 (fun hm => by have := (hg1 _ hm).1; omega)).kept j11 (by simp <;> omega)
  clear i10 i8 z8
  generalize w10.setCell ⟨w.heap.size, 3, none⟩ (.slice a8 (n + 1) c8) = w11 at *
  have k11 : Kept (w.heap.size :: blk a1) w8 w11 := ((k9.mono (by simp)).trans k10 (fun y hy => .inl (by simp [hy]))).trans j11 (fun y hy => .inl (by simp at hy; simp [hy]))
  have hw8 := h8.size
  have kW : Kept [] w w11 := h8.trans k11 (fun y hy => .inr (by
    rcases List.mem_cons.1 hy with rfl | hy
    · exact Nat.le_refl _
    · have := (hg1 y hy).1; omega))
  have hs11 := k11.size
  have hge8 : ∀ y ∈ blk a8, B ≤ y := fun y hy => (o10.ge y hy).1
  have hge5 : ∀ y ∈ blk a5, w8.heap.size ≤ y := fun y hy => (o9.ge y hy).1
  have hX : LnAt w11 ⟨a5, n5, c5, s⟩ x := ⟨(o9.rd.kept k10 (fun y hy hm => by have h1 := hge5 y hy; have h2 := (hg1 y hm).2; omega)).kept j11 (fun y hy hm => by simp at hm; have h1 := hge5 y hy; omega), hsx, h5a, h5b⟩
  have e1 : rowsV lnV vs ++ [.slice a5 n5 c5, .bool s] = rowsV lnV (vs ++ [⟨a5, n5, c5, s⟩]) := by simp [rowsV, lnV]
  rw [e1] at o10
  have hR : LnsR w11 a8 (n + 1) (vs ++ [⟨a5, n5, c5, s⟩]) (ls ++ [x]) := ⟨(o10.kept j11 (fun y hy hm => by simp at hm; have := hge8 y hy; omega)).rd, (hA.kept kW (by simp)).app (.cons hX .nil)⟩
  have hP : Rd w11 a4 M 2 (rowsV paV PS) := (p8.kept k11 (fun y hy hm => by
    rcases List.mem_cons.1 hm with h | h
    · have := (hd y hy).2; omega
    · exact (hd y hy).1 h)).rd
  refine (revict8_any ⟨lim, pl, fi, ls ++ [x], PS⟩ a8 (n + 1) c8 (vs ++ [⟨a5, n5, c5, s⟩]) a4 M c4 w11 hR hP hsP hfP hn hM hfi hpl).mono ?_
  rintro e w12 ⟨a', n', c', vs', ap', np', cp', rfl, g1, g2, g3, g4, g5, g6, g7, g8, g9, g10⟩
  refine ⟨_, _, _, a', n', c', ap', np', cp', rfl, z11.kept g7 (by simp), fun w13 j13 => ?_⟩
  have hb2 : ∀ y ∈ blks vs', y ∈ blks vs ∨ w8.heap.size ≤ y := fun y hy => by
    have := blks_sub g10 y hy
    rw [blks_app] at this
    rcases List.mem_append.1 this with h | h
    · exact .inl h
    · rw [blks_cons] at h
      rcases List.mem_append.1 h with h | h
      · exact .inr (hge5 y (blkN_sub' h))
      · cases h
  have hlt := hA.lt
  have hs12 := g7.size
  exact ⟨a', n', c', vs', ap', np', cp', rfl, ⟨g1.rd.keptB j13 (fun hm => by have := g8 _ hm; omega), g1.at'.kept j13 (fun y hy hm => by
    simp at hm
    rcases hb2 y hy with h | h
    · have := hlt y h; omega
    · omega)⟩, g2.keptB j13 (fun hm => by have := g9 _ hm; omega), g3, g4, g5, g6, (kW.trans g7 (by simp)).trans j13 (by intro y hy; simp at hy; omega), fun y hy => .inr (by have := g8 y hy; omega), fun y hy => .inr (by have := g9 y hy; omega), fun y hy => (hb2 y hy).imp id (fun h => by omega)⟩
end Go.Proofs.YtnkddhmhjnhgcaaGreatDoor
