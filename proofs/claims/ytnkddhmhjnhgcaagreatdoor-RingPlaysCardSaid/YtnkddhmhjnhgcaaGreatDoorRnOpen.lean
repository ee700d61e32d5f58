/- The program's open and evict of layer 8. -/
import Derived.Test.YtnkddhmhjnhgcaaGreatDoorRnFn3
namespace Go.Proofs.YtnkddhmhjnhgcaaGreatDoor
open Go.RowKit
set_option linter.unusedVariables false
set_option maxRecDepth 100000

theorem elPtr : ElemT Tryz.prog 56 92 (.pointer none) 1 8 := ⟨Tryz.underlying56, by kernel_rfl, rfl, by decide, by decide⟩
theorem szPtr : ∀ w, (sizeOf (Tryz.prog.elem 56)).run Tryz.prog w = .ok 1 w := fun w => by kernel_rfl
theorem wpList_app_mid {P : Program} {w : World} {ops : Array Oper} {rest : List Oper} {o : Oper} {A : Act} {Q : Exit → Act → World → Prop} {s x : Operand} {t e : TypeId} {z : Value} {size bytes : Nat}
    {a : Option Addr} {n c : Nat} {xs : List Value} {b : Option Addr} {m d : Nat} {ys : List Value}
    (h : ∀ a' c' w', Mid w' a' (n + m) c' size (xs ++ ys) → Kept (blkC a c) w w' → (∀ g ∈ blkC a' c', g ∈ blkC a c ∨ w.heap.size ≤ g) → wpList P ops Q rest (A.put o.dst (.slice a' (n + m) c')) w')
    (hgd : o.guard = none) (T : ElemT P t e z size bytes) (ho : o.op = .call { callee := .builtin .append, args := #[s, x], argTypes := #[t, t] })
    (hs : A.eval s = .slice a n c) (hm : Mid w a n c size xs) (hx : A.eval x = .slice b m d) (hr : Rd w b m size ys) (h1 : ∀ u ∈ ys, u.oneCell' = true) (hm0 : 0 < m)
    (hbytes : (n + m) * bytes ≤ 140737488355328) : wpList P ops Q (o :: rest) A w :=
  wpList_plain hgd fun _ hK => wp_app_mid (fun a' c' w' h2 h3 h4 => hK _ _ (h a' c' w' h2 h3 h4)) T ho hs hm hx hr h1 hm0 hbytes
theorem ptsV_app (ps : List PgX) (q : PgX) : ptsV (ps ++ [q]) = ptsV ps ++ ptV (some ⟨q.b, 0, none⟩) := by
  unfold ptsV ptL
  rw [List.map_append, rowsV_app]
  simp [rowsV]
/-- One more page. -/
theorem RnRaw.more {w w1 w5 w6 w7 : World} {b : Nat} {m p f x : Int} {P : Nat} {a : Option Addr} {n c : Nat} {ps : List PgX} (h : RnRaw w b m p f x P a n c ps) {q : PgX} (hq : PG w1 q.b q.s q.B) (hqp : q.s.places = P) (hqn : ∀ y ∈ q.B, w.heap.size ≤ y) (hk1 : Kept [] w w1) (hk5 : Kept [] w1 w5)
    {a6 : Option Addr} {c6 : Nat} (hm6 : Mid w6 a6 (n + 1) c6 1 (ptsV ps ++ ptV (some ⟨q.b, 0, none⟩))) (hk6 : Kept (blkC a c) w5 w6) (hat6 : ∀ y ∈ blkC a6 c6, y ∈ blkC a c ∨ w5.heap.size ≤ y) (hb7 : RbIn w7 b m p f x a6 (n + 1) c6) (hk7 : Kept [b] w6 w7) :
    RnRaw w7 b m p f x P a6 (n + 1) c6 (ps ++ [q]) ∧ Kept (rnB b a c ps) w w7 ∧ ∀ y ∈ rnB b a6 c6 (ps ++ [q]), y ∈ rnB b a c ps ∨ w.heap.size ≤ y := by
  have hs1 := hk1.size
  have hs5 := hk5.size
  have hk05 : Kept [] w w5 := hk1.trans hk5 (by simp)
  have hk06 : Kept (blkC a c) w w6 := (hk05.mono (by simp)).trans hk6 (fun y hy => .inl hy)
  have hk07 : Kept (rnB b a c ps) w w7 := (hk06.mono (fun y hy => .inl (rnB_mem.2 (.inr (.inl hy))))).trans hk7 (fun y hy => by simp at hy; exact .inl (rnB_mem.2 (.inl hy)))
  have hbl := h.box.lt
  have hltC : ∀ y ∈ blkC a c, y < w.heap.size := h.mid.lt (by decide)
  have hltP : ∀ y ∈ blkP ps, y < w.heap.size := fun y hy => h.lt y (rnB_mem.2 (.inr (.inr hy)))
  have hqlt : ∀ y ∈ q.B, y < w1.heap.size := PG.lt _ _ _ _ hq
  have hb6 : b ∉ blkC a6 c6 := fun hm => by
    rcases hat6 b hm with hm | hm
    · exact h.d1 hm
    · omega
  have e1 : blkP (ps ++ [q]) = blkP ps ++ q.B := by rw [blkP_app]; simp [blkP]
  refine ⟨⟨hb7, by rw [ptsV_app]; exact hm6.kept hk7 (fun y hy hm => by simp at hm; subst hm; exact hb6 hy), fun z hz => ?_, fun z hz => ?_, hb6, ?_, ?_, ?_⟩, hk07, fun y hy => ?_⟩
  · rcases List.mem_append.1 hz with hz | hz
    · have h1 := PG.kept _ _ _ _ _ (blkC a c) (h.pgs z hz) hk06 (fun y hy hm => h.d3 y hm (blkP_mem.2 ⟨z, hz, hy⟩))
      exact PG.kept _ _ _ _ _ [b] h1 hk7 (fun y hy hm => by simp at hm; subst hm; exact h.d2 (blkP_mem.2 ⟨z, hz, hy⟩))
    · simp only [List.mem_singleton] at hz
      subst hz
      have h1 := PG.kept _ _ _ _ _ [] hq hk5 (by simp)
      have h2 := PG.kept _ _ _ _ _ (blkC a c) h1 hk6 (fun y hy hm => by have := hqn y hy; have := hltC y hm; omega)
      exact PG.kept _ _ _ _ _ [b] h2 hk7 (fun y hy hm => by simp at hm; have := hqn y hy; omega)
  · rcases List.mem_append.1 hz with hz | hz
    · exact h.pl z hz
    · simp only [List.mem_singleton] at hz
      subst hz
      exact hqp
  · rw [e1]
    intro hm
    rcases List.mem_append.1 hm with hm | hm
    · exact h.d2 hm
    · have := hqn b hm; omega
  · intro y hy hm
    rw [e1] at hm
    rcases List.mem_append.1 hm with hm | hm
    · rcases hat6 y hy with hy | hy
      · exact h.d3 y hy hm
      · have := hltP y hm; omega
    · have h1 := hqn y hm
      have h2 := hqlt y hm
      rcases hat6 y hy with hy | hy
      · have := hltC y hy; omega
      · omega
  · refine List.pairwise_append.2 ⟨h.d4, List.pairwise_singleton _ _, fun u hu v hv y hy hm => ?_⟩
    simp only [List.mem_singleton] at hv
    subst hv
    have h1 := hqn y hm
    have h2 := hltP y (blkP_mem.2 ⟨u, hu, hy⟩)
    omega
  · rcases rnB_mem.1 hy with hy | hy | hy
    · exact .inl (rnB_mem.2 (.inl hy))
    · rcases hat6 y hy with hy | hy
      · exact .inl (rnB_mem.2 (.inr (.inl hy)))
      · exact .inr (by omega)
    · rw [e1] at hy
      rcases List.mem_append.1 hy with hy | hy
      · exact .inl (rnB_mem.2 (.inr (.inr hy)))
      · exact .inr (hqn y hy)
/-- The last page, to which a line is pushed. -/
structure Opened (r : Rg) (ts : List PgX) (q : PgX) : Prop where
  room : q.s.room ≠ 0
  ls : lnsS (shs ts) ++ q.s.ls = r.ls
  pa : ∀ s' : Sh, s'.gone = q.s.gone → s'.ls.length = q.s.ls.length + 1 → (shs ts).map paS ++ [paS s'] = addP r.places r.ps
def OpenRet (b : Nat) (r : Rg) (B : List Nat) (w : World) (e : Ending) (w' : World) : Prop := ∃ (ts : List PgX) (q : PgX) (a' : Option Addr) (n' c' : Nat), e = .returned (.pointer (some ⟨q.b, 0, none⟩)) ∧ RnRaw w' b r.limit r.places r.first r.next r.places a' n' c' (ts ++ [q]) ∧ Opened r ts q ∧ Kept B w w' ∧ ∀ y ∈ rnB b a' c' (ts ++ [q]), y ∈ B ∨ w.heap.size ≤ y
theorem split_last {α : Type} {l : List α} {m : Nat} (h : l.length = m + 1) : ∃ ts q, l = ts ++ [q] ∧ ts.length = m ∧ l[m]? = some q := by
  have hne : l ≠ [] := fun e => by rw [e] at h; simp at h
  have e := (List.dropLast_concat_getLast hne).symm
  have hd : l.dropLast.length = m := by simp [h]
  refine ⟨l.dropLast, l.getLast hne, e, hd, ?_⟩
  conv => lhs; rw [e]
  rw [← hd]
  simp
/-- A slice of one page's pointer, made in place. -/
theorem wp_bsPt {o : Oper} {A : Act} {w : World} {K : Act → World → Prop} {Q : Exit → Act → World → Prop} (parts : Array (Nat × Operand)) (ho : o.op = .buildSlice 56 1 parts) (q : Option Addr)
    (hf : Instr.fill (fun i => some (i * 1, 1)) ((Array.range (1 * 1)).map ((Value.pointer none).cells[· % (Value.pointer none).cells.size]!)) (parts.map fun (i, x) => (i, A.eval x)).toList = some (ptV q).toArray)
    (h : ∀ g w', w.heap.size ≤ g → Rd w' (some ⟨g, 0, none⟩) 1 1 (ptV q) → Kept [] w w' → K (A.put o.dst (.slice (some ⟨g, 0, none⟩) 1 1)) w') : o.wp Tryz.prog A w K Q := by
  obtain ⟨i, hi, hz0, hz1, hz2⟩ := info_parts elPtr.info
  refine wp_buildSlice (P := Tryz.prog) 56 92 1 parts ho (ptV q).toArray i _ Tryz.underlying56 hi hz0 (by rw [hz1]; decide) (by rw [hz1]; decide) (by rw [hz1]; exact hf) ?_
  refine h _ _ (Nat.le_refl _) ?_ ((Kept.refl [] w).alloc _)
  have e : rowsV ptV [q] = ptV q := by simp [rowsV]
  have hr := Rd.ofBlock rowPt (l := [q]) (heap_alloc_new w (.cells (ptV q).toArray 92)) (by rw [e])
  rw [e] at hr
  exact hr
theorem wpList_bsPt {ops : Array Oper} {rest : List Oper} {o : Oper} {A : Act} {w : World} {Q : Exit → Act → World → Prop} (parts : Array (Nat × Operand)) (ho : o.op = .buildSlice 56 1 parts) (hgd : o.guard = none) (q : Option Addr)
    (hf : Instr.fill (fun i => some (i * 1, 1)) ((Array.range (1 * 1)).map ((Value.pointer none).cells[· % (Value.pointer none).cells.size]!)) (parts.map fun (i, x) => (i, A.eval x)).toList = some (ptV q).toArray)
    (h : ∀ g w', w.heap.size ≤ g → Rd w' (some ⟨g, 0, none⟩) 1 1 (ptV q) → Kept [] w w' → wpList Tryz.prog ops Q rest (A.put o.dst (.slice (some ⟨g, 0, none⟩) 1 1)) w') : wpList Tryz.prog ops Q (o :: rest) A w :=
  wpList_plain hgd fun _ hK => wp_bsPt parts ho q hf (fun g w' h1 h2 h3 => hK _ _ (h g w' h1 h2 h3))
theorem ptV_one (q : Option Addr) : ∀ u ∈ ptV q, u.oneCell' = true := fun u hu => rowPt.one q u hu
theorem shs_app (ts : List PgX) (q : PgX) : shs (ts ++ [q]) = shs ts ++ [q.s] := by simp [shs]
theorem lnsS_one (s : Sh) : lnsS [s] = s.ls := by simp [lnsS]
set_option maxHeartbeats 8000000 in
theorem open8_any (w : World) (b : Nat) (r : Rg) (a : Option Addr) (n c : Nat) (ps : List PgX) (h : RnIs w b r a n c ps) (hle : r.ls.length ≤ 2000000) :
    Calls Tryz.prog 54 #[.pointer (some ⟨b, 0, none⟩)] w (OpenRet b r (rnB b a c ps) w) := by
  have hnl := h.nle
  have hl := h.plen
  have hH := hide h
  have hp1 := h.wf.p1
  have hp2 := h.wf.p2
  have hN := hide (fun w1 => NewS_any (r.places : Int) w1)
  obtain ⟨q0, q1, q2, q3, q4⟩ := h.box.at
  have hw1 : IntKind.i64.wrap ((n : Int) - 1) = (n : Int) - 1 := by rw [IntKind.wrap_i64]; omega
  have fresh : ∀ (w1 : World) (q : PgX) (a6 : Option Addr) (c6 : Nat) (w7 : World), q.s = ⟨r.places, 0, []⟩ → (∀ ts q0, ps = ts ++ [q0] → q0.s.room = 0) → RnRaw w7 b r.limit r.places r.first r.next r.places a6 (n + 1) c6 (ps ++ [q]) → Kept (rnB b a c ps) w w7 → (∀ y ∈ rnB b a6 c6 (ps ++ [q]), y ∈ rnB b a c ps ∨ w.heap.size ≤ y) → OpenRet b r (rnB b a c ps) w (.returned (.pointer (some ⟨q.b, 0, none⟩))) w7 := fun w1 q a6 c6 w7 hqs hnr h1 h2 h3 => by
    refine ⟨ps, q, a6, n + 1, c6, rfl, h1, ⟨by rw [hqs]; unfold Sh.room; simp; omega, by rw [hqs, h.ls]; simp, fun s' e1 e2 => ?_⟩, h2, h3⟩
    rw [h.pa]
    rw [hqs] at e1 e2
    have e3 : paS s' = ⟨0, 1⟩ := by unfold paS; rw [e1, e2]; rfl
    rw [e3]
    rcases Nat.eq_zero_or_pos n with h0 | h0
    · have : ps = [] := List.eq_nil_of_length_eq_zero (by omega)
      rw [← h.pa, this]
      rfl
    · obtain ⟨ts, q9, e, _, _⟩ := split_last (l := ps) (m := n - 1) (by omega)
      have hr0 := hnr ts q9 e
      have hpl := h.pl q9 (by rw [e]; simp)
      have hok := (PG.ok _ _ _ _ (h.pgs q9 (by rw [e]; simp))).1.1
      rw [← h.pa, e, shs_app, List.map_append, List.map_singleton, addP_last, if_pos]
      · simp
      · show q9.s.gone + q9.s.ls.length = r.places
        unfold Sh.room at hr0
        omega
  have fresh := hide fresh
  by_cases hn0 : n = 0
  · subst hn0
    have hps : ps = [] := List.eq_nil_of_length_eq_zero hl
    have hm1 : ((-1 : Int) ≥ 0) = False := by simp
    have hwm : IntKind.i64.wrap (((0 : Nat) : Int) - 1) = -1 := by rw [IntKind.wrap_i64]; omega
    clear h hw1
    go_enter Tryz.func54, Tryz.ntmps54
    go_upto_region 4 with fail
    go_wp2_with fail
    refine (hN.out w).mono ?_
    rintro e w1 ⟨hk1, hyes, _⟩
    obtain ⟨b1, B1, rfl, hpg, hnew⟩ := hyes ⟨by omega, by omega⟩
    clear q0 q1 q2 q3 q4
    obtain ⟨q0, q1, q2, q3, q4⟩ := (hH.out.box.kept hk1 (by simp)).at
    have hMid := hide (fun w2 (hk : Kept [] w1 w2) => hH.out.mid.kept (hk1.trans hk (by simp)) (by simp))
    have hBx := hide (fun w2 (hk : Kept [] w1 w2) => hH.out.box.kept (hk1.trans hk (by simp)) (by simp))
    go_upto_region 5 with fail
    go_wp2_with (first | refine wpList_bsPt _ rfl rfl (some ⟨b1, 0, none⟩) (by kernel_rfl) ?_; intro g5 w5 hg5 hr5 hj5 | (at_builtin; refine wpList_app_mid ?_ rfl elPtr rfl rfl (hMid.out w5 hj5) rfl hr5 (ptV_one _) (by decide) (by omega); intro a6 c6 w6 hm6 hj6 hat6; have u4 := ((hBx.out w5 hj5).kept hj6 hH.out.d1).at.2.2.2.2; have v4 := ((hBx.out w5 hj5).kept hj6 hH.out.d1).froz 4; have hb6 := hide ((hBx.out w5 hj5).kept hj6 hH.out.d1)))
    go_ret
    have hb7 := hb6.out.setP a6 (0 + 1) c6
    have hk7 : Kept [b] w6 (w6.setCell ⟨b, 4, none⟩ (.slice a6 (0 + 1) c6)) := (Kept.refl _ _).setCell (.inl (by simp)) _
    obtain ⟨p1, p2, p3⟩ := hH.out.toRnRaw.more (q := ⟨b1, ⟨(r.places : Int).toNat, 0, []⟩, B1⟩) hpg (by simp) (fun y hy => Nat.le_trans (Nat.le_refl _) (hnew y hy)) hk1 hj5 hm6 hj6 hat6 hb7 hk7
    exact fresh.out w1 ⟨b1, ⟨(r.places : Int).toNat, 0, []⟩, B1⟩ a6 c6 _ (by simp) (fun ts q0 e => by rw [hps] at e; simp at e) p1 p2 p3
  · obtain ⟨ts, q, hps, htl, hq⟩ := split_last (l := ps) (m := n - 1) (by omega)
    obtain ⟨g, o, rfl⟩ := h.addr (by omega)
    have hpt := hide (fun w1 (hk : Kept [] w w1) => (h.keep hk).ptAt hq)
    have hRo := hide (fun w1 (hk : Kept [] w w1) => by obtain ⟨a1, n1, c1, vs, hh, _⟩ := (h.keep hk).pgAt hq; exact room_pg hh)
    have hw2 : IntKind.i64.wrap ((n : Int) - 1) = ((n - 1 : Nat) : Int) := by rw [IntKind.wrap_i64]; omega
    have hm0 : ((n - 1 : Nat) : Int) < (n : Int) := by omega
    have hm1 : (0 : Int) ≤ ((n - 1 : Nat) : Int) := by omega
    have q5 := hpt.out w (Kept.refl _ _)
    have hnr : Hid (q.s.room = 0 → ∀ ts' q0, ps = ts' ++ [q0] → q0.s.room = 0) := hide (fun hr ts' q0 e => by
      rw [hps] at e
      have := (List.append_inj' e rfl).2
      simp only [List.cons.injEq, and_true] at this
      rw [← this]; exact hr)
    have hsame : Hid (q.s.room ≠ 0 → ∀ w1, Kept [] w w1 → OpenRet b r (rnB b (some ⟨g, o, none⟩) c ps) w (.returned (.pointer (some ⟨q.b, 0, none⟩))) w1) := hide (fun hr w1 hk => by
      refine ⟨ts, q, some ⟨g, o, none⟩, n, c, rfl, by rw [← hps]; exact (h.keep hk).toRnRaw, ⟨hr, ?_, fun s' e1 e2 => ?_⟩, hk.mono (by simp), fun y hy => .inl (by rw [hps]; exact hy)⟩
      · rw [← h.ls, hps, shs_app, lnsS_app, lnsS_one]
      · have hok := (PG.ok _ _ _ _ (h.pgAt hq)).1.1
        have hpl := h.pl q (by rw [hps]; simp)
        rw [← h.pa, hps, shs_app, List.map_append, List.map_singleton, addP_last, if_neg]
        · unfold paS; rw [e1, e2]
        · show ¬ (q.s.gone + q.s.ls.length = r.places)
          unfold Sh.room at hr
          omega)
    generalize hmm : n - 1 = m at *
    replace hmm := hide hmm
    clear h hw1 hps
    by_cases hroom : q.s.room = 0
    · have hnr2 := hide (hnr.out hroom)
      rw [hroom] at hRo
      go_enter Tryz.func54, Tryz.ntmps54
      go_wp2_with fail
      refine (hRo.out w (Kept.refl _ _)).mono ?_
      rintro e w0 ⟨rfl, hk0⟩
      clear q0 q1 q2 q3 q4 q5
      obtain ⟨q0, q1, q2, q3, q4⟩ := (hH.out.box.kept hk0 (by simp)).at
      go_wp2_with fail
      refine (hN.out w0).mono ?_
      rintro e w1 ⟨hj1, hyes, _⟩
      have hk1 := hk0.trans hj1 (by simp)
      have hs0 := hk0.size
      obtain ⟨b1, B1, rfl, hpg, hnew⟩ := hyes ⟨by omega, by omega⟩
      clear q0 q1 q2 q3 q4
      obtain ⟨q0, q1, q2, q3, q4⟩ := (hH.out.box.kept hk1 (by simp)).at
      have hMid := hide (fun w2 (hk : Kept [] w1 w2) => hH.out.mid.kept (hk1.trans hk (by simp)) (by simp))
      have hBx := hide (fun w2 (hk : Kept [] w1 w2) => hH.out.box.kept (hk1.trans hk (by simp)) (by simp))
      go_upto_region 5 with fail
      go_wp2_with (first | refine wpList_bsPt _ rfl rfl (some ⟨b1, 0, none⟩) (by kernel_rfl) ?_; intro g5 w5 hg5 hr5 hj5 | (at_builtin; refine wpList_app_mid ?_ rfl elPtr rfl rfl (hMid.out w5 hj5) rfl hr5 (ptV_one _) (by decide) (by omega); intro a6 c6 w6 hm6 hj6 hat6; have u4 := ((hBx.out w5 hj5).kept hj6 hH.out.d1).at.2.2.2.2; have v4 := ((hBx.out w5 hj5).kept hj6 hH.out.d1).froz 4; have hb6 := hide ((hBx.out w5 hj5).kept hj6 hH.out.d1)))
      go_ret
      have hb7 := hb6.out.setP a6 (n + 1) c6
      have hk7 : Kept [b] w6 (w6.setCell ⟨b, 4, none⟩ (.slice a6 (n + 1) c6)) := (Kept.refl _ _).setCell (.inl (by simp)) _
      obtain ⟨p1, p2, p3⟩ := hH.out.toRnRaw.more (q := ⟨b1, ⟨(r.places : Int).toNat, 0, []⟩, B1⟩) hpg (by simp) (fun y hy => Nat.le_trans hs0 (hnew y hy)) hk1 hj5 hm6 hj6 hat6 hb7 hk7
      exact fresh.out w1 ⟨b1, ⟨(r.places : Int).toNat, 0, []⟩, B1⟩ a6 c6 _ (by simp) (fun ts q0 e => hnr2.out ts q0 e) p1 p2 p3
    · have hgt : (((q.s.room : Nat) : Int) > 0) := by omega
      have hs2 := hide (hsame.out hroom)
      go_enter Tryz.func54, Tryz.ntmps54
      go_wp2_with fail
      refine (hRo.out w (Kept.refl _ _)).mono ?_
      rintro e w0 ⟨rfl, hk0⟩
      clear q0 q1 q2 q3 q4 q5
      obtain ⟨q0, q1, q2, q3, q4⟩ := (hH.out.box.kept hk0 (by simp)).at
      have q5 := hpt.out w0 hk0
      go_wp2_with fail
      go_ret
      exact hs2.out _ hk0
end Go.Proofs.YtnkddhmhjnhgcaaGreatDoor
