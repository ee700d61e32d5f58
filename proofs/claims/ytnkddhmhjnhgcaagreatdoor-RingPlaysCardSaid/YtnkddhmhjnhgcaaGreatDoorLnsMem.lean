/- Lists of lines in memory: a slice of lines, each of which leads to its cells. -/
import Derived.Test.YtnkddhmhjnhgcaaGreatDoorLinRefA
import Derived.Test.YtnkddhmhjnhgcaaGreatDoorMaths
namespace Go.Proofs.YtnkddhmhjnhgcaaGreatDoor
open Go.RowKit
set_option linter.unusedVariables false
set_option maxRecDepth 100000

/-- A line's value. -/
structure LnA where
  a : Option Addr
  n : Nat
  c : Nat
  s : Bool
def lnV (v : LnA) : List Value := [.slice v.a v.n v.c, .bool v.s]
def noA : LnA := ⟨none, 0, 0, false⟩
theorem rowLn : RowOf lnV 2 := ⟨by decide, fun _ => rfl, fun v u hu => by
  simp only [lnV, List.mem_cons, List.not_mem_nil, or_false] at hu
  rcases hu with rfl | rfl <;> rfl⟩
/-- The block of a slice with elements. -/
def blkN (a : Option Addr) (n : Nat) : List Nat := if n = 0 then [] else blk a
def blks (vs : List LnA) : List Nat := vs.flatMap fun v => blkN v.a v.n
theorem blks_cons (v : LnA) (vs : List LnA) : blks (v :: vs) = blkN v.a v.n ++ blks vs := rfl
theorem blks_app (vs us : List LnA) : blks (vs ++ us) = blks vs ++ blks us := by simp [blks]
theorem blks_mem {vs : List LnA} {v : LnA} (h : v ∈ vs) : ∀ g ∈ blkN v.a v.n, g ∈ blks vs := fun g hg => List.mem_flatMap.2 ⟨v, h, hg⟩
theorem Rd.keptN {S : List Nat} {w w' : World} {a : Option Addr} {n size : Nat} {xs : List Value} (h : Rd w a n size xs) (hk : Kept S w w') (hS : ∀ g ∈ blkN a n, g ∉ S) : Rd w' a n size xs := by
  by_cases hn : n = 0
  · subst hn
    have : xs = [] := List.eq_nil_of_length_eq_zero (by rw [h.1, Nat.zero_mul])
    subst this
    exact Rd.nil _ _ _
  · exact h.kept hk fun g hg => hS g (by unfold blkN; rw [if_neg hn]; exact hg)
theorem Rd.ltN {w : World} {a : Option Addr} {n : Nat} {l : List Cl} (h : Rd w a n 16 (cellsV l)) : ∀ g ∈ blkN a n, g < w.heap.size := by
  unfold blkN
  split
  · intro g hg; cases hg
  · rename_i hn
    refine h.lt fun h0 => ?_
    have := h.1
    rw [h0] at this
    simp at this
    omega
/-- A line's value leads to this line. -/
structure LnAt (w : World) (v : LnA) (x : Ln) : Prop where
  rd : Rd w v.a v.n 16 (cellsV x.l)
  s : v.s = x.s
  nc : v.n ≤ v.c
  cm : v.c ≤ maxLen
theorem LnAt.kept {S : List Nat} {w w' : World} {v : LnA} {x : Ln} (h : LnAt w v x) (hk : Kept S w w') (hS : ∀ g ∈ blkN v.a v.n, g ∉ S) : LnAt w' v x := ⟨h.rd.keptN hk hS, h.s, h.nc, h.cm⟩
theorem LnAt.len {w : World} {v : LnA} {x : Ln} (h : LnAt w v x) : x.l.length = v.n := h.rd.clen
theorem noA_at (w : World) : LnAt w noA noLn := ⟨Rd.nil _ _ _, rfl, Nat.le_refl _, Nat.zero_le _⟩
inductive LnsAt (w : World) : List LnA → List Ln → Prop where
  | nil : LnsAt w [] []
  | cons {v : LnA} {x : Ln} {vs : List LnA} {xs : List Ln} (h : LnAt w v x) (t : LnsAt w vs xs) : LnsAt w (v :: vs) (x :: xs)
theorem LnsAt.kept {S : List Nat} {w w' : World} (hk : Kept S w w') : ∀ {vs : List LnA} {xs : List Ln}, LnsAt w vs xs → (∀ g ∈ blks vs, g ∉ S) → LnsAt w' vs xs
  | _, _, .nil, _ => .nil
  | _, _, .cons h t, hS => .cons (h.kept hk fun g hg => hS g (by rw [blks_cons]; exact List.mem_append_left _ hg)) (t.kept hk fun g hg => hS g (by rw [blks_cons]; exact List.mem_append_right _ hg))
theorem LnsAt.lt {w : World} : ∀ {vs : List LnA} {xs : List Ln}, LnsAt w vs xs → ∀ g ∈ blks vs, g < w.heap.size
  | _, _, .nil, g, hg => by cases hg
  | _, _, .cons h t, g, hg => by
    rw [blks_cons] at hg
    rcases List.mem_append.1 hg with hg | hg
    · exact h.rd.ltN g hg
    · exact t.lt g hg
theorem LnsAt.len {w : World} : ∀ {vs : List LnA} {xs : List Ln}, LnsAt w vs xs → vs.length = xs.length
  | _, _, .nil => rfl
  | _, _, .cons _ t => by simp [t.len]
theorem LnsAt.get {w : World} : ∀ {vs : List LnA} {xs : List Ln}, LnsAt w vs xs → ∀ (i : Nat) (h1 : i < vs.length) (h2 : i < xs.length), LnAt w vs[i] xs[i]
  | _, _, .cons h _, 0, _, _ => h
  | _, _, .cons _ t, i + 1, h1, h2 => t.get i (by simpa using h1) (by simpa using h2)
theorem LnsAt.app {w : World} : ∀ {vs : List LnA} {xs : List Ln} {us : List LnA} {ys : List Ln}, LnsAt w vs xs → LnsAt w us ys → LnsAt w (vs ++ us) (xs ++ ys)
  | _, _, _, _, .nil, h => h
  | _, _, _, _, .cons h t, k => .cons h (t.app k)
theorem LnsAt.drop {w : World} : ∀ {vs : List LnA} {xs : List Ln} (i : Nat), LnsAt w vs xs → LnsAt w (vs.drop i) (xs.drop i)
  | _, _, 0, h => h
  | _, _, i + 1, .nil => .nil
  | _, _, i + 1, .cons _ t => by simpa using t.drop i
theorem LnsAt.take {w : World} : ∀ {vs : List LnA} {xs : List Ln} (i : Nat), LnsAt w vs xs → LnsAt w (vs.take i) (xs.take i)
  | _, _, 0, h => .nil
  | _, _, i + 1, .nil => .nil
  | _, _, i + 1, .cons h t => .cons h (t.take i)
theorem LnsAt.set {w : World} {v : LnA} {x : Ln} (h : LnAt w v x) : ∀ {vs : List LnA} {xs : List Ln} (i : Nat), LnsAt w vs xs → LnsAt w (vs.set i v) (xs.set i x)
  | _, _, _, .nil => .nil
  | _, _, 0, .cons _ t => .cons h t
  | _, _, i + 1, .cons k t => .cons k (t.set h i)
/-- A slice of lines. -/
structure LnsR (w : World) (a : Option Addr) (n : Nat) (vs : List LnA) (xs : List Ln) : Prop where
  rd : Rd w a n 2 (rowsV lnV vs)
  at' : LnsAt w vs xs
theorem LnsR.kept {S : List Nat} {w w' : World} {a : Option Addr} {n : Nat} {vs : List LnA} {xs : List Ln} (h : LnsR w a n vs xs) (hk : Kept S w w') (h1 : ∀ g ∈ blk a, g ∉ S) (h2 : ∀ g ∈ blks vs, g ∉ S) : LnsR w' a n vs xs := ⟨h.rd.kept hk h1, h.at'.kept hk h2⟩
theorem LnsR.vlen {w : World} {a : Option Addr} {n : Nat} {vs : List LnA} {xs : List Ln} (h : LnsR w a n vs xs) : vs.length = n := h.rd.rowLen rowLn
theorem LnsR.len {w : World} {a : Option Addr} {n : Nat} {vs : List LnA} {xs : List Ln} (h : LnsR w a n vs xs) : xs.length = n := by rw [← h.at'.len, h.vlen]
theorem LnsR.nil (w : World) (a : Option Addr) : LnsR w a 0 [] [] := ⟨Rd.nil _ _ _, .nil⟩
theorem elLine : ElemT Tryz.prog 30 36 (.agg #[.slice none 0 0, .bool false]) 2 32 := ⟨Tryz.underlying30, by kernel_rfl, rfl, by decide, by decide⟩

/-- A slice of lines that is made in place. -/
theorem wp_bsLn {o : Oper} {A : Act} {w : World} {K : Act → World → Prop} {Q : Exit → Act → World → Prop} (len : Nat) (parts : Array (Nat × Operand)) (ho : o.op = .buildSlice 30 len parts)
    (l : List LnA) (hl : l.length = len) (hsmall : ¬ len * 2 > 2 ^ 24) (hpos : ¬ len * 2 = 0)
    (hf : Instr.fill (fun i => some (i * 2, 2)) ((Array.range (len * 2)).map ((Value.agg #[.slice none 0 0, .bool false]).cells[· % (Value.agg #[.slice none 0 0, .bool false]).cells.size]!)) (parts.map fun (i, x) => (i, A.eval x)).toList = some (rowsV lnV l).toArray)
    (h : ∀ g w', w.heap.size ≤ g → Rd w' (some ⟨g, 0, none⟩) len 2 (rowsV lnV l) → Kept [] w w' → K (A.put o.dst (.slice (some ⟨g, 0, none⟩) len len)) w') : o.wp Tryz.prog A w K Q := by
  obtain ⟨i, hi, hz0, hz1, hz2⟩ := info_parts elLine.info
  refine wp_buildSlice (P := Tryz.prog) 30 36 len parts ho (rowsV lnV l).toArray i _ Tryz.underlying30 hi hz0 (by rw [hz1]; exact hsmall) (by rw [hz1]; exact hpos) (by rw [hz1]; exact hf) ?_
  refine h _ _ (Nat.le_refl _) ?_ ((Kept.refl [] w).alloc _)
  have hr := Rd.ofBlock rowLn (l := l) (heap_alloc_new w (.cells (rowsV lnV l).toArray 36)) rfl
  rw [hl] at hr
  exact hr
theorem szLn : ∀ w, (sizeOf (Tryz.prog.elem 30)).run Tryz.prog w = .ok 2 w := fun w => by kernel_rfl
theorem cutn_l (a : Option Addr) (n c lo : Nat) (h1 : lo ≤ n) (h3 : n ≤ c) (hc : c ≤ maxLen) :
    ∃ a2 c2, n - lo ≤ c2 ∧ c2 ≤ maxLen ∧ (∀ w, (Instr.slice 30 (.slice a n c) (some (.int .i64 lo)) none none).run Tryz.prog w = .ok (.slice a2 (n - lo) c2) w) ∧
      ∀ w (l : List LnA), Rd w a n 2 (rowsV lnV l) → Rd w a2 (n - lo) 2 (rowsV lnV (l.drop lo)) := rows_slice_l rowLn Tryz.underlying30 szLn a n c lo h1 h3 hc
theorem cutn_h (a : Option Addr) (n c hi : Nat) (h2 : hi ≤ n) (h3 : n ≤ c) (hc : c ≤ maxLen) :
    ∃ a2 c2, hi ≤ c2 ∧ c2 ≤ maxLen ∧ (∀ w, (Instr.slice 30 (.slice a n c) none (some (.int .i64 hi)) none).run Tryz.prog w = .ok (.slice a2 hi c2) w) ∧
      ∀ w (l : List LnA), Rd w a n 2 (rowsV lnV l) → Rd w a2 hi 2 (rowsV lnV (l.take hi)) := rows_slice_h rowLn Tryz.underlying30 szLn a n c hi h2 h3 hc
theorem blks_sub {vs us : List LnA} (h : ∀ v ∈ us, v ∈ vs) : ∀ y ∈ blks us, y ∈ blks vs := fun y hy => by
  obtain ⟨v, hv, hy⟩ := List.mem_flatMap.1 hy
  exact List.mem_flatMap.2 ⟨v, h v hv, hy⟩
theorem blkN_new {a : Option Addr} {n : Nat} {k : Nat} (h : ∀ y ∈ blk a, k ≤ y) : ∀ y ∈ blkN a n, k ≤ y := fun y hy => by
  unfold blkN at hy
  split at hy
  · cases hy
  · exact h y hy
/-- All of layer 6's reference: whether two lists of lines are the same. -/
theorem ln_ext {x y : Ln} : (x = y) ↔ (x.s = y.s ∧ x.l = y.l) := by
  cases x; cases y
  simp [and_comm]
set_option maxHeartbeats 2000000 in
theorem rAll6_any (a : Option Addr) (n c : Nat) (vs : List LnA) (xs : List Ln) (a2 : Option Addr) (n2 c2 : Nat) (us : List LnA) (ys : List Ln) (w : World) (hr : LnsR w a n vs xs) (hr2 : LnsR w a2 n2 us ys) (hx : ∀ x ∈ xs, x.l.length ≤ 1000000) (hn : n ≤ 1000000) :
    Calls Tryz.prog 37 #[.slice a n c, .slice a2 n2 c2] w fun e w' => e = .returned (.bool (decide (xs = ys))) ∧ Kept [] w w' := by
  have hl := hr.len
  have hm := hr2.len
  have hvl := hr.vlen
  have hul := hr2.vlen
  by_cases hnn0 : n = n2
  · subst hnn0
    have hH := hide hr
    have hH2 := hide hr2
    have hX := hide hx
    clear hr hr2 hx
    go_enter Tryz.func37, Tryz.ntmps37
    go_wp2_with fail
    have hl := hide hl
    have hm := hide hm
    have hvl := hide hvl
    have hul := hide hul
    go_loopg [5, 11, 12, 13, 14, 15, 16, 17, 18, 19, 20, 21, 22, 23, 24, 25, 26] n (fun kx s5 s11 s12 s13 s14 s15 s16 s17 s18 s19 s20 s21 s22 s23 s24 s25 s26 wr => ∃ k : Nat, s5 = .int .i64 k ∧ k ≤ n ∧ n - k ≤ kx ∧ Hid (xs.take k = ys.take k) ∧ Kept [] w wr)
    case atStart => exact ⟨0, rfl, Nat.zero_le _, by omega, hide (by simp), Kept.refl _ _⟩
    case round =>
      obtain ⟨k, rfl, hk, hg, hT, hkr⟩ := hrel
      by_cases hlt : k < n
      · have hkv : k < vs.length := by rw [hvl.out]; exact hlt
        have hku : k < us.length := by rw [hul.out]; exact hlt
        have hkl : k < xs.length := by rw [hl.out]; exact hlt
        have hkm : k < ys.length := by rw [hm.out]; exact hlt
        obtain ⟨b, o, rfl⟩ := hH.out.rd.rowAddr rowLn (by omega)
        obtain ⟨b2, o2, rfl⟩ := hH2.out.rd.rowAddr rowLn (by omega)
        have r1 : wr.rangeAt b (o + k * 2) (lnV vs[k]) := (hH.out.rd.kept hkr (by simp)).row rowLn k hkv
        have r2 : wr.rangeAt b2 (o2 + k * 2) (lnV us[k]) := (hH2.out.rd.kept hkr (by simp)).row rowLn k hku
        have g1 := hide (hH.out.at'.get k hkv hkl)
        have g2 := hide (hH2.out.at'.get k hku hkm)
        have hkn : (k : Int) < (n : Int) := by omega
        have hnx := hide (And.intro (List.take_succ_eq_append_getElem hkl : xs.take (k + 1) = xs.take k ++ [xs[k]]) (List.take_succ_eq_append_getElem hkm : ys.take (k + 1) = ys.take k ++ [ys[k]]))
        have hne := hide (fun h : xs = ys => (by subst h; rfl : xs[k] = ys[k]))
        have hxk := hide (hX.out _ (List.getElem_mem hkl))
        generalize xs[k] = x at *
        generalize ys[k] = y at *
        generalize vs[k] = v at *
        generalize us[k] = u at *
        have hS := hide (fun w1 (hk : Kept [] wr w1) => rSame6_any v.a v.n v.c v.s x.l u.a u.n u.c u.s y.l w1 (g1.out.rd.kept (hkr.trans hk (by simp)) (by simp)) (g2.out.rd.kept (hkr.trans hk (by simp)) (by simp)) (by rw [← g1.out.rd.clen]; exact hxk.out))
        rw [show decide (v.s = u.s ∧ x.l = y.l) = decide (x = y) by rw [g1.out.s, g2.out.s]; simp only [ln_ext]] at hS
        go_upto_region 6 with fail
        by_cases hxy0 : x = y
        · rw [decide_eq_true hxy0] at hS
          have hxy := hide hxy0
          clear hxy0
          refine wp_region_held_drew (S := (fun w' => w'.rangeAt b (o + k * 2) (lnV v) ∧ w'.rangeAt b2 (o2 + k * 2) (lnV u))) (by kernel_rfl) ?_ (fun hHeld => ?_)
          · (try dsimp only); (first | exact ⟨fun j q hq => hj1.cell (hHeld.1 j q hq) (by simp), fun j q hq => hj1.cell (hHeld.2 j q hq) (by simp)⟩ | exact ⟨fun j q hq => (Kept.refl [] wr).drew.cell (r1 j q hq) (by simp), fun j q hq => (Kept.refl [] wr).drew.cell (r2 j q hq) (by simp)⟩)
          refine wpAnyH_take (i := 0) (v := ?_) rfl (by kernel_rfl) (by kernel_rfl) (by kernel_rfl) (fun _ _ _ h => h) (Or.inl ⟨by rfl, ?_⟩) (by assumption) ?_
          rotate_left
          · (intro wq hSw; (try dsimp only at hSw); go_simp; try with_reducible rfl)
          try simp only [Act.put, List.getElem_toArray, List.getElem_cons_zero, List.setIfInBounds_toArray, List.set_cons_zero, List.set_cons_succ]
          refine wpAnyH_take (i := 1) (v := ?_) rfl (by kernel_rfl) (by kernel_rfl) (by kernel_rfl) (fun _ _ _ h => h) (Or.inl ⟨by rfl, ?_⟩) (by assumption) ?_
          rotate_left
          · (intro wq hSw; (try dsimp only at hSw); go_simp; try with_reducible rfl)
          try simp only [Act.put, List.getElem_toArray, List.getElem_cons_succ, List.getElem_cons_zero, List.setIfInBounds_toArray, List.set_cons_zero, List.set_cons_succ]
          refine wpAnyH_take (i := 2) (v := ?_) rfl (by kernel_rfl) (by kernel_rfl) (by kernel_rfl) (fun _ _ _ h => h) (Or.inl ⟨by rfl, ?_⟩) (by assumption) ?_
          rotate_left
          · (intro wq hSw; (try dsimp only at hSw); go_simp; try with_reducible rfl)
          try simp only [Act.put, List.getElem_toArray, List.getElem_cons_succ, List.getElem_cons_zero, List.setIfInBounds_toArray, List.set_cons_zero, List.set_cons_succ]
          refine wpAnyH_take (i := 3) (v := (.agg #[.slice v.a v.n v.c, .bool v.s])) rfl (by kernel_rfl) (by kernel_rfl) (by kernel_rfl) (fun _ _ _ h => h) (yieldsIf_load_mid (by rfl) 36 _ rfl b (o + k * 2) rfl (lnV v) _ (fun _ h => h.1) Tryz.underlying36 rfl (by kernel_rfl)) (by assumption) ?_
          try simp only [Act.put, List.getElem_toArray, List.getElem_cons_succ, List.getElem_cons_zero, List.setIfInBounds_toArray, List.set_cons_zero, List.set_cons_succ]
          refine wpAnyH_take (i := 4) (v := ?_) rfl (by kernel_rfl) (by kernel_rfl) (by kernel_rfl) (fun _ _ _ h => h) (Or.inl ⟨by rfl, ?_⟩) (by assumption) ?_
          rotate_left
          · (intro wq hSw; (try dsimp only at hSw); go_simp; try with_reducible rfl)
          try simp only [Act.put, List.getElem_toArray, List.getElem_cons_succ, List.getElem_cons_zero, List.setIfInBounds_toArray, List.set_cons_zero, List.set_cons_succ]
          refine wpAnyH_take (i := 5) (v := ?_) rfl (by kernel_rfl) (by kernel_rfl) (by kernel_rfl) (fun _ _ _ h => h) (Or.inl ⟨by rfl, ?_⟩) (by assumption) ?_
          rotate_left
          · (intro wq hSw; (try dsimp only at hSw); go_simp; try with_reducible rfl)
          try simp only [Act.put, List.getElem_toArray, List.getElem_cons_succ, List.getElem_cons_zero, List.setIfInBounds_toArray, List.set_cons_zero, List.set_cons_succ]
          refine wpAnyH_take (i := 6) (v := ?_) rfl (by kernel_rfl) (by kernel_rfl) (by kernel_rfl) (fun _ _ _ h => h) (Or.inl ⟨by rfl, ?_⟩) (by assumption) ?_
          rotate_left
          · (intro wq hSw; (try dsimp only at hSw); go_simp; try with_reducible rfl)
          try simp only [Act.put, List.getElem_toArray, List.getElem_cons_succ, List.getElem_cons_zero, List.setIfInBounds_toArray, List.set_cons_zero, List.set_cons_succ]
          refine wpAnyH_take (i := 7) (v := (.agg #[.slice u.a u.n u.c, .bool u.s])) rfl (by kernel_rfl) (by kernel_rfl) (by kernel_rfl) (fun _ _ _ h => h) (yieldsIf_load_mid (by rfl) 36 _ rfl b2 (o2 + k * 2) rfl (lnV u) _ (fun _ h => h.2) Tryz.underlying36 rfl (by kernel_rfl)) (by assumption) ?_
          try simp only [Act.put, List.getElem_toArray, List.getElem_cons_succ, List.getElem_cons_zero, List.setIfInBounds_toArray, List.set_cons_zero, List.set_cons_succ]
          refine wpAnyH_ready (rs := [8]) (by kernel_rfl) (by simp) ?_
          refine AllReadyH.cons rfl (fun K hK => ?_) AllReadyH.nil
          go_simp
          refine (hS.out _ (Kept.refl [] wr).drew).mono ?_; rintro e w1 ⟨rfl, hj1⟩
          try go_wp2_with fail
          refine hK.out _ _ ?_ (fun hHeld => ?_)
          · (try dsimp only); (first | exact ⟨fun j q hq => hj1.cell (hHeld.1 j q hq) (by simp), fun j q hq => hj1.cell (hHeld.2 j q hq) (by simp)⟩ | exact ⟨fun j q hq => (Kept.refl [] wr).drew.cell (r1 j q hq) (by simp), fun j q hq => (Kept.refl [] wr).drew.cell (r2 j q hq) (by simp)⟩)
          clear hK K
          try simp only [Act.put, List.getElem_toArray, List.getElem_cons_succ, List.getElem_cons_zero, List.setIfInBounds_toArray, List.set_cons_zero, List.set_cons_succ]
          refine wpAnyH_take (i := 9) (v := ?_) rfl (by kernel_rfl) (by kernel_rfl) (by kernel_rfl) (fun _ _ _ h => h) (Or.inl ⟨by rfl, ?_⟩) (by assumption) ?_
          rotate_left
          · (intro wq hSw; (try dsimp only at hSw); go_simp; try with_reducible rfl)
          try simp only [Act.put, List.getElem_toArray, List.getElem_cons_succ, List.getElem_cons_zero, List.setIfInBounds_toArray, List.set_cons_zero, List.set_cons_succ]
          refine wpAnyH_done (by kernel_rfl) ?_ _
          go_wp2_with fail
          go_roundg (n - (k + 1))
          case measure => omega
          case rel => exact ⟨k + 1, by push_cast; rfl, by omega, Nat.le_refl _, hide (by rw [hnx.out.1, hnx.out.2, hT.out, hxy.out]), hkr.drew.trans hj1 (by simp)⟩
        · rw [decide_eq_false hxy0] at hS
          have hxy := hide hxy0
          clear hxy0
          refine wp_region_held_drew (S := (fun w' => w'.rangeAt b (o + k * 2) (lnV v) ∧ w'.rangeAt b2 (o2 + k * 2) (lnV u))) (by kernel_rfl) ?_ (fun hHeld => ?_)
          · (try dsimp only); (first | exact ⟨fun j q hq => hj1.cell (hHeld.1 j q hq) (by simp), fun j q hq => hj1.cell (hHeld.2 j q hq) (by simp)⟩ | exact ⟨fun j q hq => (Kept.refl [] wr).drew.cell (r1 j q hq) (by simp), fun j q hq => (Kept.refl [] wr).drew.cell (r2 j q hq) (by simp)⟩)
          refine wpAnyH_take (i := 0) (v := ?_) rfl (by kernel_rfl) (by kernel_rfl) (by kernel_rfl) (fun _ _ _ h => h) (Or.inl ⟨by rfl, ?_⟩) (by assumption) ?_
          rotate_left
          · (intro wq hSw; (try dsimp only at hSw); go_simp; try with_reducible rfl)
          try simp only [Act.put, List.getElem_toArray, List.getElem_cons_zero, List.setIfInBounds_toArray, List.set_cons_zero, List.set_cons_succ]
          refine wpAnyH_take (i := 1) (v := ?_) rfl (by kernel_rfl) (by kernel_rfl) (by kernel_rfl) (fun _ _ _ h => h) (Or.inl ⟨by rfl, ?_⟩) (by assumption) ?_
          rotate_left
          · (intro wq hSw; (try dsimp only at hSw); go_simp; try with_reducible rfl)
          try simp only [Act.put, List.getElem_toArray, List.getElem_cons_succ, List.getElem_cons_zero, List.setIfInBounds_toArray, List.set_cons_zero, List.set_cons_succ]
          refine wpAnyH_take (i := 2) (v := ?_) rfl (by kernel_rfl) (by kernel_rfl) (by kernel_rfl) (fun _ _ _ h => h) (Or.inl ⟨by rfl, ?_⟩) (by assumption) ?_
          rotate_left
          · (intro wq hSw; (try dsimp only at hSw); go_simp; try with_reducible rfl)
          try simp only [Act.put, List.getElem_toArray, List.getElem_cons_succ, List.getElem_cons_zero, List.setIfInBounds_toArray, List.set_cons_zero, List.set_cons_succ]
          refine wpAnyH_take (i := 3) (v := (.agg #[.slice v.a v.n v.c, .bool v.s])) rfl (by kernel_rfl) (by kernel_rfl) (by kernel_rfl) (fun _ _ _ h => h) (yieldsIf_load_mid (by rfl) 36 _ rfl b (o + k * 2) rfl (lnV v) _ (fun _ h => h.1) Tryz.underlying36 rfl (by kernel_rfl)) (by assumption) ?_
          try simp only [Act.put, List.getElem_toArray, List.getElem_cons_succ, List.getElem_cons_zero, List.setIfInBounds_toArray, List.set_cons_zero, List.set_cons_succ]
          refine wpAnyH_take (i := 4) (v := ?_) rfl (by kernel_rfl) (by kernel_rfl) (by kernel_rfl) (fun _ _ _ h => h) (Or.inl ⟨by rfl, ?_⟩) (by assumption) ?_
          rotate_left
          · (intro wq hSw; (try dsimp only at hSw); go_simp; try with_reducible rfl)
          try simp only [Act.put, List.getElem_toArray, List.getElem_cons_succ, List.getElem_cons_zero, List.setIfInBounds_toArray, List.set_cons_zero, List.set_cons_succ]
          refine wpAnyH_take (i := 5) (v := ?_) rfl (by kernel_rfl) (by kernel_rfl) (by kernel_rfl) (fun _ _ _ h => h) (Or.inl ⟨by rfl, ?_⟩) (by assumption) ?_
          rotate_left
          · (intro wq hSw; (try dsimp only at hSw); go_simp; try with_reducible rfl)
          try simp only [Act.put, List.getElem_toArray, List.getElem_cons_succ, List.getElem_cons_zero, List.setIfInBounds_toArray, List.set_cons_zero, List.set_cons_succ]
          refine wpAnyH_take (i := 6) (v := ?_) rfl (by kernel_rfl) (by kernel_rfl) (by kernel_rfl) (fun _ _ _ h => h) (Or.inl ⟨by rfl, ?_⟩) (by assumption) ?_
          rotate_left
          · (intro wq hSw; (try dsimp only at hSw); go_simp; try with_reducible rfl)
          try simp only [Act.put, List.getElem_toArray, List.getElem_cons_succ, List.getElem_cons_zero, List.setIfInBounds_toArray, List.set_cons_zero, List.set_cons_succ]
          refine wpAnyH_take (i := 7) (v := (.agg #[.slice u.a u.n u.c, .bool u.s])) rfl (by kernel_rfl) (by kernel_rfl) (by kernel_rfl) (fun _ _ _ h => h) (yieldsIf_load_mid (by rfl) 36 _ rfl b2 (o2 + k * 2) rfl (lnV u) _ (fun _ h => h.2) Tryz.underlying36 rfl (by kernel_rfl)) (by assumption) ?_
          try simp only [Act.put, List.getElem_toArray, List.getElem_cons_succ, List.getElem_cons_zero, List.setIfInBounds_toArray, List.set_cons_zero, List.set_cons_succ]
          refine wpAnyH_ready (rs := [8]) (by kernel_rfl) (by simp) ?_
          refine AllReadyH.cons rfl (fun K hK => ?_) AllReadyH.nil
          go_simp
          refine (hS.out _ (Kept.refl [] wr).drew).mono ?_; rintro e w1 ⟨rfl, hj1⟩
          try go_wp2_with fail
          refine hK.out _ _ ?_ (fun hHeld => ?_)
          · (try dsimp only); (first | exact ⟨fun j q hq => hj1.cell (hHeld.1 j q hq) (by simp), fun j q hq => hj1.cell (hHeld.2 j q hq) (by simp)⟩ | exact ⟨fun j q hq => (Kept.refl [] wr).drew.cell (r1 j q hq) (by simp), fun j q hq => (Kept.refl [] wr).drew.cell (r2 j q hq) (by simp)⟩)
          clear hK K
          try simp only [Act.put, List.getElem_toArray, List.getElem_cons_succ, List.getElem_cons_zero, List.setIfInBounds_toArray, List.set_cons_zero, List.set_cons_succ]
          refine wpAnyH_take (i := 9) (v := ?_) rfl (by kernel_rfl) (by kernel_rfl) (by kernel_rfl) (fun _ _ _ h => h) (Or.inl ⟨by rfl, ?_⟩) (by assumption) ?_
          rotate_left
          · (intro wq hSw; (try dsimp only at hSw); go_simp; try with_reducible rfl)
          try simp only [Act.put, List.getElem_toArray, List.getElem_cons_succ, List.getElem_cons_zero, List.setIfInBounds_toArray, List.set_cons_zero, List.set_cons_succ]
          refine wpAnyH_done (by kernel_rfl) ?_ _
          go_wp2_with fail
          go_ret
          exact ⟨ret_bool (by simp; exact fun h => hxy.out (hne.out h)), hkr.drew.trans hj1 (by simp)⟩
      · obtain rfl : k = n := by omega
        go_wp2_with fail
        go_ret
        have e : xs = ys := by
          have := hT.out
          rwa [List.take_of_length_le (Nat.le_of_eq hl.out), List.take_of_length_le (Nat.le_of_eq hm.out)] at this
        exact ⟨ret_bool (by simp [e]), hkr⟩
  · have hnn : (n : Int) ≠ (n2 : Int) := by omega
    go_enter Tryz.func37, Tryz.ntmps37
    go_wp2_with fail
    go_ret
    have e : ¬ xs = ys := fun e => hnn0 (by rw [← hl, ← hm, e])
    exact ⟨ret_bool (by simp [e]), Kept.refl _ _⟩
end Go.Proofs.YtnkddhmhjnhgcaaGreatDoor
