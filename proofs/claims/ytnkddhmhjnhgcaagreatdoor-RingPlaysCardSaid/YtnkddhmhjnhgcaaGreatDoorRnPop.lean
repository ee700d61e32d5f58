/- The program's Pop of layer 8. -/
import Derived.Test.YtnkddhmhjnhgcaaGreatDoorRnPush
namespace Go.Proofs.YtnkddhmhjnhgcaaGreatDoor
open Go.RowKit
set_option linter.unusedVariables false
set_option maxRecDepth 100000

theorem PG.pop {w : World} {b : Nat} {s : Sh} {B : List Nat} (h : PG w b s B) : Calls Tryz.prog 60 #[.pointer (some ⟨b, 0, none⟩)] w (PopRet b s B w) := by
  obtain ⟨a, n, c, vs, h, rfl⟩ := h
  exact PopS_any w b s a n c vs h
theorem blkN_sub'' {a : Option Addr} {n y : Nat} (hy : y ∈ blkN a n) : y ∈ blk a := by unfold blkN at hy; split at hy; cases hy; exact hy
/-- What Pop returns: a line that the ring has forgotten. -/
def Pop8Ret (b : Nat) (r : Rg) (B : List Nat) (w : World) (e : Ending) (w' : World) : Prop := ∃ B' a n c, e = .returned (.tuple #[.agg #[.slice a n c, .bool (popG r).2.1.s], .int .i64 (popG r).2.2]) ∧ LnAt w' ⟨a, n, c, (popG r).2.1.s⟩ (popG r).2.1 ∧ OwnL w' ⟨a, n, c, (popG r).2.1.s⟩ ∧ (∀ y ∈ blk a, y ∉ B' ∧ (y ∈ B ∨ w.heap.size ≤ y)) ∧ RN w' b (popG r).1 B' ∧ Kept B w w' ∧ ∀ y ∈ B', y ∈ B ∨ w.heap.size ≤ y
set_option maxHeartbeats 8000000 in
theorem Pop8_any (w : World) (b : Nat) (r : Rg) (a : Option Addr) (n c : Nat) (ps : List PgX) (h : RnIs w b r a n c ps) (hle : r.ls.length ≤ r.limit) (hn : r.next ≤ 1000000000) :
    Calls Tryz.prog 42 #[.pointer (some ⟨b, 0, none⟩)] w (Pop8Ret b r (rnB b a c ps) w) := by
  obtain ⟨W0, hW0⟩ : ∃ z : World, z = w.alloc (.cells #[.slice none 0 0, .bool false] 36) := ⟨_, rfl⟩
  have hk0 : Kept [] w W0 := by rw [hW0]; exact (Kept.refl [] w).alloc _
  have hz0 : Hid (LinIn W0 w.heap.size none 0 0 false) := hide (by rw [hW0]; exact LinIn.new w none 0 0 false)
  have hM := hide (made_rn (h.keep hk0))
  have hbox := hide (fun w1 (hk : Kept [] W0 w1) => (h.keep (hk0.trans hk (by simp))).box)
  have hl := h.plen
  have hH := hide h
  have hnl := h.nle
  have hl2 := h.wf.l2
  by_cases hn0 : n = 0
  · have hls : r.ls = [] := h.nil.1 hn0
    have e0 : popG r = (r, noLn, 9) := by unfold popG; rw [if_pos hls]
    have hfin : Hid (∀ w2, Kept [] w w2 → Pop8Ret b r (rnB b a c ps) w (.returned (.tuple #[.agg #[.slice none 0 0, .bool false], .int .i64 9])) w2) := hide (fun w2 hk => by
      unfold Pop8Ret
      rw [e0]
      exact ⟨rnB b a c ps, none, 0, 0, rfl, noA_at _, noA_own _, fun y hy => by simp [blk] at hy, ⟨a, n, c, ps, hH.out.keep hk, rfl, hle⟩, hk.mono (by simp), fun y hy => .inl hy⟩)
    subst hn0
    clear h e0 hls
    go_enter Tryz.func42, Tryz.ntmps42
    go_upto_region 1 with fail
    rw [← hW0]
    clear hW0
    go_wp2_with fail
    refine hM.out.mono ?_
    rintro e w1 ⟨rfl, hk1⟩
    obtain ⟨q0, q1, q2, q3, q4⟩ := (hbox.out w1 hk1).at
    go_wp2_with (refine wpList_store_lin rfl rfl rfl w.heap.size rfl (hz0.out.kept hk1 (by simp)) none 0 0 false rfl ?_; intro w7 hb7 hk7)
    refine bodyPost_ret (results_lin2 rfl rfl hb7 rfl) rfl ?_
    exact hfin.out _ ((hk0.trans hk1 (by simp)).trans hk7 (by simp))
  · obtain ⟨ts, q, hps, htl, hq⟩ := split_last (l := ps) (m := n - 1) (by omega)
    obtain ⟨g, o, rfl⟩ := h.addr (by omega)
    have hq1 := h.one q (by rw [hps]; simp)
    have hqn : q.s.ls ≠ [] := fun e => by rw [e] at hq1; simp at hq1
    have hpq : popS q.s = (⟨q.s.places, q.s.gone, q.s.ls.dropLast⟩, q.s.ls.getLastD noLn, 0) := by unfold popS; rw [if_neg hqn]
    have hlsr : r.ls = lnsS (shs ts) ++ q.s.ls := by rw [← h.ls, hps, shs_app, lnsS_app, lnsS_one]
    have hpar : r.ps = (shs ts).map paS ++ [paS q.s] := by rw [← h.pa, hps, shs_app, List.map_append]; rfl
    have hrn : r.ls ≠ [] := fun e => by rw [hlsr] at e; exact hqn (List.append_eq_nil_iff.1 e).2
    have e0 : popG r = (⟨r.limit, r.places, r.first, r.ls.dropLast, popP r.ps⟩, q.s.ls.getLastD noLn, 0) := by
      unfold popG
      rw [if_neg hrn]
      congr 2
      rw [hlsr, List.getLastD_eq_getLast?, List.getLastD_eq_getLast?, List.getLast?_append]
      cases hgl : q.s.ls.getLast? with
      | none => exact absurd (List.getLast?_eq_none_iff.1 hgl) hqn
      | some z => simp
    have hok := hide (popG_ok (h.wf.ok hle))
    rw [e0] at hok
    unfold Pop8Ret
    rw [e0]
    have hdl : r.ls.dropLast = lnsS (shs ts) ++ q.s.ls.dropLast := by rw [hlsr, List.dropLast_append_of_ne_nil hqn]
    have hpt := hide (fun w1 (hk : Kept [] W0 w1) => (h.keep (hk0.trans hk (by simp))).ptAt hq)
    have hPop := hide (fun w1 (hk : Kept [] W0 w1) => ((h.keep (hk0.trans hk (by simp))).pgAt hq).pop)
    unfold PopRet at hPop
    rw [hpq] at hPop
    obtain ⟨y, hy⟩ : ∃ y : Ln, q.s.ls.getLastD noLn = y := ⟨_, rfl⟩
    rw [hy]
    rw [hy] at hPop
    replace hy := hide hy
    have hw1 : IntKind.i64.wrap ((n : Int) - 1) = ((n - 1 : Nat) : Int) := by rw [IntKind.wrap_i64]; omega
    have hnn : (((n : Int)) == 0) = false := by simp; omega
    have hm0 : ((n - 1 : Nat) : Int) < (n : Int) := by omega
    obtain ⟨X, hX⟩ : ∃ X : Nat, r.next = X := ⟨_, rfl⟩
    have hX1 : 1 ≤ X := by rw [← hX]; have := h.nlen; have := List.length_pos_iff.2 hrn; omega
    have hwX : IntKind.i64.wrap ((X : Int) - 1) = ((X - 1 : Nat) : Int) := by rw [IntKind.wrap_i64]; omega
    have hbX := hide (fun w1 (hk : Kept [] W0 w1) => by have := (hbox.out w1 hk); rw [hX] at this; exact this)
    have hqB : Hid (w.heap.size ∉ q.B ∧ b ∉ q.B ∧ g ∉ q.B ∧ b ≠ g) := hide (by
      have hsub : ∀ y ∈ q.B, y ∈ blkP ps := fun y hy => blkP_mem.2 ⟨q, by rw [hps]; simp, hy⟩
      have hC : blkC (some ⟨g, o, none⟩) c = [g] := by unfold blkC; rw [if_neg (by have := h.mid.caps.1; omega)]; rfl
      exact ⟨fun hm => by have := h.lt _ (rnB_mem.2 (.inr (.inr (hsub _ hm)))); omega, fun hm => h.d2 (hsub _ hm), fun hm => h.d3 g (by rw [hC]; simp) (hsub _ hm), fun e => h.d1 (by rw [hC, e]; simp)⟩)
    have hgw : Hid (g < w.heap.size ∧ b < w.heap.size) := hide ⟨h.mid.lt (by decide) g (by unfold blkC; rw [if_neg (by have := h.mid.caps.1; omega)]; simp [blk]), h.box.lt⟩
    generalize hmm : n - 1 = m at *
    generalize hXm : X - 1 = Y at *
    replace hmm := hide hmm
    replace hXm := hide hXm
    replace hX := hide hX
    replace hps := hide hps
    replace hq := hide hq
    replace hlsr := hide hlsr
    replace hpar := hide hpar
    replace hdl := hide hdl
    replace htl := hide htl
    clear h e0 hpq hbox
    go_enter Tryz.func42, Tryz.ntmps42
    go_upto_region 1 with fail
    rw [← hW0]
    clear hW0
    go_wp2_with fail
    refine hM.out.mono ?_
    rintro e w1 ⟨rfl, hk1⟩
    obtain ⟨q0, q1, q2, q3, q4⟩ := (hbX.out w1 hk1).at
    have q5 := hpt.out w1 hk1
    go_upto_region 6 with fail
    go_wp2_with fail
    refine (hPop.out w1 hk1).mono ?_
    rintro e w2 ⟨B', a5, n5, c5, rfl, hat5, hown5, hdis5, hpg2, hk2, hnw2⟩
    clear q0 q1 q2 q3 q4 q5
    have hb2 := (hbX.out w1 hk1).kept hk2 hqB.out.2.1
    have hraw1 := (hH.out.keep (hk0.trans hk1 (by simp))).toRnRaw
    have hP : Paged w1 w2 ps m q B' ⟨q.s.places, q.s.gone, q.s.ls.dropLast⟩ := ⟨hpg2, hk2, hnw2⟩
    have hraw2 := hraw1.paged hq.out hP rfl
    obtain ⟨n2a, n2b⟩ := RnIs.paged_nw (b := b) (a := some ⟨g, o, none⟩) (c := c) hq.out hP
    have hset : ps.set m ⟨q.b, ⟨q.s.places, q.s.gone, q.s.ls.dropLast⟩, B'⟩ = ts ++ [⟨q.b, ⟨q.s.places, q.s.gone, q.s.ls.dropLast⟩, B'⟩] := by rw [hps.out, ← htl.out, set_end]
    rw [hset] at hraw2 n2b
    have n2a := hide n2a
    have n2b := hide n2b
    clear hraw1 hP hset
    go_upto_region 7 with (refine wpList_store_lin rfl rfl rfl w2.heap.size rfl (LinIn.new w2 none 0 0 false) a5 n5 c5 y.s rfl ?_; intro w3 hb3 hj3)
    have hh3 : Kept [] w2 w3 := ((Kept.refl [] w2).alloc (.cells #[.slice none 0 0, .bool false] 36)).trans hj3 (by simp)
    have hbx3 := hb2.kept hh3 (by simp)
    obtain ⟨q0, q1, q2, q3, q4⟩ := hbx3.at
    have f3 := hbx3.froz 3
    go_upto_region 8 with fail
    have hbx4 := hbx3.setX ((Y : Nat) : Int)
    have j4 : Kept [b] w3 (w3.setCell ⟨b, 3, none⟩ (.int .i64 ((Y : Nat) : Int))) := (Kept.refl _ _).setCell (.inl (by simp)) _
    clear q0 q1 q2 q3 q4 f3
    generalize w3.setCell ⟨b, 3, none⟩ (.int .i64 ((Y : Nat) : Int)) = w4 at *
    have hraw4 := hide ((hraw2.keep hh3).boxed hbx4 j4 (fun z hz => by simpa using hz))
    have hs0 := hz0.out.lt
    have hs1 := hk1.size
    have hs2 := hk2.size
    have hk24 : Kept [b] w2 w4 := (hh3.mono (by simp)).trans j4 (fun z hz => .inl hz)
    have hb4 := hide (hb3.kept j4 (by simp; have := hgw.out.2; omega))
    have hz4 := hide ((((hz0.out.kept hk1 (by simp)).kept hk2 hqB.out.1).kept hh3 (by simp)).kept j4 (by simp; have := hgw.out.2; omega))
    have hdb : ∀ z ∈ blk a5, z ≠ b ∧ z ≠ g ∧ z ≠ w.heap.size ∧ z < w2.heap.size := fun z hz => by
      have h1 := (hdis5 z hz).2
      obtain ⟨x5, hx5⟩ := hown5
      have h2 := (hx5.ge z hz).2
      obtain ⟨u1, u2, u3, _⟩ := hqB.out
      obtain ⟨v1, v2⟩ := hgw.out
      rcases h1 with h1 | h1
      · exact ⟨fun e => u2 (e ▸ h1), fun e => u3 (e ▸ h1), fun e => u1 (e ▸ h1), h2⟩
      · exact ⟨by omega, by omega, by omega, h2⟩
    have hdb := hide hdb
    have hpg4 := hraw4.out.pgs ⟨q.b, ⟨q.s.places, q.s.gone, q.s.ls.dropLast⟩, B'⟩ (by simp)
    have hLn := hpg4.lenC
    have hq0 : q.s.ls.dropLast.length = q.s.ls.length - 1 := by simp
    obtain ⟨M, hMM⟩ : ∃ M : Nat, q.s.ls.dropLast.length = M := ⟨_, rfl⟩
    simp only [hMM] at hLn
    have hLn := hide hLn
    have hM2 := hide (And.intro hMM (hq0.symm.trans hMM))
    clear hMM hq0 hpg4
    obtain ⟨q0, q1, q2, q3, q4⟩ := hbx4.at
    have hmid4 := hide hraw4.out.mid
    have hgetm : Hid ((ts ++ [⟨q.b, ⟨q.s.places, q.s.gone, q.s.ls.dropLast⟩, B'⟩])[m]? = some (⟨q.b, ⟨q.s.places, q.s.gone, q.s.ls.dropLast⟩, B'⟩ : PgX)) := hide (by rw [← htl.out, get_end])
    have hlm : Hid (m < (ptL (ts ++ [⟨q.b, ⟨q.s.places, q.s.gone, q.s.ls.dropLast⟩, B'⟩])).length) := hide (by simp [ptL, htl.out])
    have hem : Hid ((ptL (ts ++ [⟨q.b, ⟨q.s.places, q.s.gone, q.s.ls.dropLast⟩, B'⟩]))[m]'hlm.out = some ⟨q.b, 0, none⟩) := hide (by simp [ptL, ← htl.out])
    have kc5 := (hmid4.out.cellAt rowPt (i := m) (j := 0) (u := .pointer (some ⟨q.b, 0, none⟩)) hlm.out (by rw [hem.out]; rfl)).1
    have kf5 := (hmid4.out.cellAt rowPt (i := m) (j := 0) (u := .pointer (some ⟨q.b, 0, none⟩)) hlm.out (by rw [hem.out]; rfl)).2
    simp only [Nat.mul_one, Nat.add_zero] at kc5 kf5
    have hnx : Hid ((⟨r.limit, r.places, r.first, r.ls.dropLast, popP r.ps⟩ : Rg).next = Y) := hide (by
      have h1 := hX.out
      have h2 := hXm.out
      unfold Rg.next at *
      simp only [List.length_dropLast]
      have h3 : 1 ≤ r.ls.length := List.length_pos_iff.2 hrn
      omega)
    have hkB : Hid (Kept (rnB b (some ⟨g, o, none⟩) c ps) w w4) := hide ((((hk0.trans hk1 (by simp)).mono (by simp)).trans n2a.out (fun z hz => .inl hz)).trans hk24 (fun z hz => by simp at hz; subst hz; exact .inl (rnB_mem.2 (.inl rfl))))
    have hnB : Hid (∀ z ∈ rnB b (some ⟨g, o, none⟩) c (ts ++ [⟨q.b, ⟨q.s.places, q.s.gone, q.s.ls.dropLast⟩, B'⟩]), z ∈ rnB b (some ⟨g, o, none⟩) c ps ∨ w.heap.size ≤ z) := hide (fun z hz => (n2b.out z hz).imp id (fun h => by omega))
    have hcap := hmid4.out.caps
    have hC : blkC (some ⟨g, o, none⟩) c = [g] := by unfold blkC; rw [if_neg (by omega)]; rfl
    have hdisB : Hid (∀ z ∈ blk a5, z ∉ B' ∧ (z ∈ q.B ∨ w1.heap.size ≤ z)) := hide hdis5
    have hsq : Hid (∀ z ∈ blk a5, z ∈ rnB b (some ⟨g, o, none⟩) c ps ∨ w.heap.size ≤ z) := hide (fun z hz => by
      rcases (hdis5 z hz).2 with h1 | h1
      · exact .inl (rnB_mem.2 (.inr (.inr (blkP_mem.2 ⟨q, by rw [hps.out]; simp, h1⟩))))
      · exact .inr (by omega))
    have hnts : Hid (∀ z ∈ blk a5, ∀ p ∈ ts, z ∉ p.B) := hide (fun z hz p hp hm => by
      have hpl : p ∈ ps := by rw [hps.out]; simp [hp]
      rcases (hdis5 z hz).2 with h1 | h1
      · have h4 := hH.out.d4
        unfold Far at h4
        rw [hps.out] at h4
        exact (List.pairwise_append.1 h4).2.2 p hp q (by simp) z hm h1
      · have := hH.out.lt z (rnB_mem.2 (.inr (.inr (blkP_mem.2 ⟨p, hpl, hm⟩))))
        have := hk0.size
        omega)
    have hat5 := hide hat5
    have hown5 := hide hown5
    clear hdis5 hraw2
    by_cases hz : M = 0
    · subst hz
      obtain ⟨hcutr, hmidh⟩ := mid_slice_h (P := Tryz.prog) rowPt Tryz.underlying56 szPtr w4 (some ⟨g, o, none⟩) n c m _ hmid4.out (by have := hmm.out; omega)
      have hmidh := hide hmidh
      go_wp2_with fail
      refine hLn.out.mono ?_
      rintro e w5 ⟨rfl, j5⟩
      clear q0 q1 q2 q3 q4
      have hbx5 := hide (hbx4.kept j5 (by simp))
      obtain ⟨q0, q1, q2, q3, q4⟩ := hbx5.out.at
      have c6 := j5.cell kc5 (by simp)
      have f6 := j5.frozen kc5 kf5 (by simp)
      clear kc5 kf5
      go_upto_region 10 with fail
      have hm6 := (hmid4.out.kept j5 (by simp)).setOne rowPt (i := m) (j := 0) (v := .pointer none) (d := none) hlm.out (by decide) (by rw [hem.out]; rfl)
      simp only [Nat.mul_one, Nat.add_zero] at hm6
      have j6 : Kept [g] w5 (w5.setCell ⟨g, o + m, none⟩ (.pointer none)) := (Kept.refl _ _).setCell (.inl (by simp)) _
      have hbx6 := hide (hbx5.out.kept j6 (by simpa using hqB.out.2.2.2))
      clear q0 q1 q2 q3 q4 c6 f6
      generalize w5.setCell ⟨g, o + m, none⟩ (.pointer none) = w6 at *
      obtain ⟨q0, q1, q2, q3, q4⟩ := hbx6.out.at
      have f4 := hbx6.out.froz 4
      go_upto_region 11 with fail
      have hbx7 := hbx6.out.setP (some ⟨g, o, none⟩) m c
      have j7 : Kept [b] w6 (w6.setCell ⟨b, 4, none⟩ (.slice (some ⟨g, o, none⟩) m c)) := (Kept.refl _ _).setCell (.inl (by simp)) _
      have hm7 := hmidh.out w6 _ hm6
      have em : ((ptL (ts ++ [⟨q.b, ⟨q.s.places, q.s.gone, q.s.ls.dropLast⟩, B'⟩])).set m none).take m = ptL ts := by
        rw [List.take_set_of_le (Nat.le_refl _)]
        simp only [ptL, List.map_append, List.map_cons, List.map_nil]
        rw [List.take_left' (by simp [htl.out])]
      rw [em] at hm7
      obtain ⟨u1, u2, u3⟩ := hraw4.out.cut (qs := ts) (List.sublist_append_left _ _) (by rw [hC]; exact (j5.mono (by simp)).trans j6 (fun z hz => .inl hz)) hm7 (fun z hz => hz) hbx7 j7
      clear q0 q1 q2 q3 q4 f4
      generalize w6.setCell ⟨b, 4, none⟩ (.slice (some ⟨g, o, none⟩) m c) = w7 at *
      have k47 : Kept [g, b] w4 w7 := ((j5.mono (by simp)).trans j6 (fun z hz => by simp at hz; simp [hz])).trans j7 (fun z hz => by simp at hz; simp [hz])
      have hb7 := hb4.out.kept k47 (by have := hgw.out; simp; omega)
      have hz7 := hz4.out.kept k47 (by have := hgw.out; simp; omega)
      obtain ⟨p0, p1⟩ := hb7.at
      go_wp2_with (refine wpList_store_lin rfl rfl rfl w.heap.size rfl hz7 a5 n5 c5 y.s rfl ?_; intro w8 hb8 hj8)
      refine bodyPost_ret (results_lin2 rfl rfl hb8 rfl) rfl ?_
      have k28 : Kept [g, b, w.heap.size] w2 w8 := ((hk24.mono (fun z hz => by simp at hz; simp [hz])).trans k47 (fun z hz => by simp at hz; rcases hz with rfl | rfl <;> simp)).trans hj8 (fun z hz => by simp at hz; simp [hz])
      have hnS : ∀ z ∈ blk a5, z ∉ [g, b, w.heap.size] := fun z hz hm => by
        obtain ⟨v1, v2, v3, _⟩ := hdb.out z hz
        simp at hm
        rcases hm with h | h | h
        · exact v2 h
        · exact v1 h
        · exact v3 h
      have hpop : popP r.ps = (shs ts).map paS := by rw [hpar.out, popP_last, if_pos]; show q.s.ls.length - 1 = 0; exact hM2.out.2
      have hd0 : q.s.ls.dropLast = [] := List.eq_nil_of_length_eq_zero hM2.out.1
      have hI : RnIs w8 b ⟨r.limit, r.places, r.first, r.ls.dropLast, popP r.ps⟩ (some ⟨g, o, none⟩) m c ts := by
        refine ⟨?_, ?_, hpop.symm, hok.out.w⟩
        · rw [hnx.out]
          exact u1.kept hj8 (fun z hz hm => by
            simp at hm
            subst hm
            rcases hnB.out _ (u3 _ hz) with h1 | h1
            · have := hH.out.lt _ h1; omega
            · have h2 := hraw4.out.lt _ (u3 _ hz)
              have h3 := n2b.out _ (u3 _ hz)
              rcases h3 with h3 | h3
              · have := hH.out.lt _ h3; omega
              · have := hk0.size; omega)
        · show lnsS (shs ts) = r.ls.dropLast
          rw [hdl.out, hd0, List.append_nil]
      refine ⟨rnB b (some ⟨g, o, none⟩) c ts, a5, n5, c5, rfl, ?_, ?_, fun z hz => ⟨fun hm => ?_, hsq.out z hz⟩, ⟨_, _, _, _, hI, rfl, hok.out.le⟩, (hkB.out.trans u2 (fun z hz => hnB.out z hz)).trans hj8 (fun z hz => by simp at hz; exact .inr (by omega)), fun z hz => hnB.out z (u3 z hz)⟩
      · exact hat5.out.kept k28 (fun z hz => hnS z (blkN_sub'' hz))
      · exact hown5.out.kept k28 hnS
      · obtain ⟨v1, v2, v3, _⟩ := hdb.out z hz
        rcases rnB_mem.1 hm with h1 | h1 | h1
        · exact v1 h1
        · rw [hC] at h1; simp at h1; exact v2 h1
        · obtain ⟨p, hp, h1⟩ := blkP_mem.1 h1
          exact hnts.out z hz p hp h1
    · have hne : (((M : Nat) : Int) == 0) = false := by simp; omega
      go_wp2_with fail
      refine hLn.out.mono ?_
      rintro e w5 ⟨rfl, j5⟩
      clear q0 q1 q2 q3 q4
      have hb5 := hb4.out.kept j5 (by simp)
      have hz5 := hz4.out.kept j5 (by simp)
      obtain ⟨p0, p1⟩ := hb5.at
      go_wp2_with (refine wpList_store_lin rfl rfl rfl w.heap.size rfl hz5 a5 n5 c5 y.s rfl ?_; intro w8 hb8 hj8)
      refine bodyPost_ret (results_lin2 rfl rfl hb8 rfl) rfl ?_
      have k28 : Kept [g, b, w.heap.size] w2 w8 := ((hk24.mono (fun z hz => by simp at hz; simp [hz])).trans j5 (by simp)).trans hj8 (fun z hz => by simp at hz; simp [hz])
      have hnS : ∀ z ∈ blk a5, z ∉ [g, b, w.heap.size] := fun z hz hm => by
        obtain ⟨v1, v2, v3, _⟩ := hdb.out z hz
        simp at hm
        rcases hm with h | h | h
        · exact v2 h
        · exact v1 h
        · exact v3 h
      have hpop : popP r.ps = (shs ts).map paS ++ [⟨q.s.gone, q.s.ls.length - 1⟩] := by rw [hpar.out, popP_last, if_neg]; rfl; show ¬ (q.s.ls.length - 1 = 0); rw [hM2.out.2]; exact hz
      have hI : RnIs w8 b ⟨r.limit, r.places, r.first, r.ls.dropLast, popP r.ps⟩ (some ⟨g, o, none⟩) n c (ts ++ [⟨q.b, ⟨q.s.places, q.s.gone, q.s.ls.dropLast⟩, B'⟩]) := by
        refine ⟨?_, ?_, ?_, hok.out.w⟩
        · rw [hnx.out]
          exact (hraw4.out.keep j5).kept hj8 (fun z hz hm => by
            simp at hm
            subst hm
            rcases n2b.out _ hz with h3 | h3
            · have := hH.out.lt _ h3; omega
            · have := hk0.size; omega)
        · show lnsS (shs _) = r.ls.dropLast
          rw [hdl.out, shs_app, lnsS_app, lnsS_one]
        · show (shs _).map paS = popP r.ps
          rw [hpop, shs_app, List.map_append, List.map_singleton]
          unfold paS
          simp
      refine ⟨rnB b (some ⟨g, o, none⟩) c (ts ++ [⟨q.b, ⟨q.s.places, q.s.gone, q.s.ls.dropLast⟩, B'⟩]), a5, n5, c5, rfl, ?_, ?_, fun z hz => ⟨fun hm => ?_, hsq.out z hz⟩, ⟨_, _, _, _, hI, rfl, hok.out.le⟩, (hkB.out.trans j5 (by simp)).trans hj8 (fun z hz => by simp at hz; exact .inr (by omega)), hnB.out⟩
      · exact hat5.out.kept k28 (fun z hz => hnS z (blkN_sub'' hz))
      · exact hown5.out.kept k28 hnS
      · obtain ⟨v1, v2, v3, _⟩ := hdb.out z hz
        rcases rnB_mem.1 hm with h1 | h1 | h1
        · exact v1 h1
        · rw [hC] at h1; simp at h1; exact v2 h1
        · obtain ⟨p, hp, h1⟩ := blkP_mem.1 h1
          rcases List.mem_append.1 hp with hp | hp
          · exact hnts.out z hz p hp h1
          · simp only [List.mem_singleton] at hp
            subst hp
            exact (hdisB.out z hz).1 h1
end Go.Proofs.YtnkddhmhjnhgcaaGreatDoor
