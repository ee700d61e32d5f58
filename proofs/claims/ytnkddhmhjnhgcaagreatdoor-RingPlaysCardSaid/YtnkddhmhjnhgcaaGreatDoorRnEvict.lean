/- The program's evict, Limit and Clear of layer 8. -/
import Derived.Test.YtnkddhmhjnhgcaaGreatDoorRnOpen
namespace Go.Proofs.YtnkddhmhjnhgcaaGreatDoor
open Go.RowKit
set_option linter.unusedVariables false
set_option maxRecDepth 100000

/-- Some of the pages are left. -/
theorem RnRaw.cut {w w5 w6 : World} {b : Nat} {m p f x m' p' f' x' : Int} {P : Nat} {a : Option Addr} {n c : Nat} {ps : List PgX} (h : RnRaw w b m p f x P a n c ps) {qs : List PgX} (hs : qs.Sublist ps) {a2 : Option Addr} {n2 c2 : Nat} (k5 : Kept (blkC a c) w w5) (hm : Mid w5 a2 n2 c2 1 (ptsV qs)) (ha2 : ∀ y ∈ blkC a2 c2, y ∈ blkC a c) (hb : RbIn w6 b m' p' f' x' a2 n2 c2) (k6 : Kept [b] w5 w6) :
    RnRaw w6 b m' p' f' x' P a2 n2 c2 qs ∧ Kept (rnB b a c ps) w w6 ∧ ∀ y ∈ rnB b a2 c2 qs, y ∈ rnB b a c ps := by
  have hsub : ∀ y ∈ blkP qs, y ∈ blkP ps := fun y hy => by
    obtain ⟨q, hq, hy⟩ := blkP_mem.1 hy
    exact blkP_mem.2 ⟨q, hs.subset hq, hy⟩
  refine ⟨⟨hb, hm.kept k6 (fun y hy hm => by simp at hm; subst hm; exact h.d1 (ha2 _ hy)), fun q hq => ?_, fun q hq => h.pl q (hs.subset hq), fun hm => h.d1 (ha2 b hm), fun hm => h.d2 (hsub b hm), fun y hy hm => h.d3 y (ha2 y hy) (hsub y hm), h.d4.sublist hs⟩, (k5.mono (fun y hy => .inl (rnB_mem.2 (.inr (.inl hy))))).trans k6 (fun y hy => by simp at hy; exact .inl (rnB_mem.2 (.inl hy))), fun y hy => ?_⟩
  · have h1 := PG.kept _ _ _ _ _ (blkC a c) (h.pgs q (hs.subset hq)) k5 (fun y hy hm => h.d3 y hm (blkP_mem.2 ⟨q, hs.subset hq, hy⟩))
    exact PG.kept _ _ _ _ _ [b] h1 k6 (fun y hy hm => by simp at hm; subst hm; exact h.d2 (blkP_mem.2 ⟨q, hs.subset hq, hy⟩))
  · rcases rnB_mem.1 hy with hy | hy | hy
    · exact rnB_mem.2 (.inl hy)
    · exact rnB_mem.2 (.inr (.inl (ha2 y hy)))
    · exact rnB_mem.2 (.inr (.inr (hsub y hy)))
/-- So many lines dropped at the front. -/
def dropG (r : Rg) (d : Nat) : Rg := ⟨r.limit, r.places, r.first + d, r.ls.drop d, dropPs d r.ps⟩
theorem dropG_next (r : Rg) (d : Nat) (h : d ≤ r.ls.length) : (dropG r d).next = r.next := by
  unfold dropG Rg.next
  simp only [List.length_drop]
  omega
theorem dropG_add (r : Rg) (d e : Nat) : dropG (dropG r d) e = dropG r (d + e) := by
  unfold dropG
  simp only [List.drop_drop, ← dropPs_add]
  congr 1
  omega
theorem evict_drop (r : Rg) : r.evict = dropG r (r.ls.length - r.limit) := evict_is r
theorem dropG_zero (r : Rg) : dropG r 0 = r := rfl
theorem PG.drop {w : World} {b : Nat} {s : Sh} {B : List Nat} (h : PG w b s B) (k : Int) : Calls Tryz.prog 61 #[.pointer (some ⟨b, 0, none⟩), .int .i64 k] w (SetRet b (dropS s k) B w) := by
  obtain ⟨a, n, c, vs, h, rfl⟩ := h
  exact DropS_any w b s a n c vs h k
theorem PG.lenC {w : World} {b : Nat} {s : Sh} {B : List Nat} (h : PG w b s B) : Calls Tryz.prog 57 #[.pointer (some ⟨b, 0, none⟩)] w fun e w' => e = .returned (.int .i64 (s.ls.length : Nat)) ∧ Kept [] w w' := by
  obtain ⟨a, n, c, vs, h, _⟩ := h
  exact len_pg h
theorem RnIs.lenC {w : World} {b : Nat} {r : Rg} {a : Option Addr} {n c : Nat} {ps : List PgX} (h : RnIs w b r a n c ps) (hn : r.next ≤ 1000000001) : Calls Tryz.prog 23 #[.pointer (some ⟨b, 0, none⟩)] w fun e w' => e = .returned (.int .i64 (r.ls.length : Nat)) ∧ Kept [] w w' := Len8_any _ _ _ _ _ _ _ _ _ h.ptr _ (by have h1 := h.nlen; rw [IntKind.wrap_i64]; omega)
/-- What is done and hands back nothing. -/
def Did8 (b : Nat) (r : Rg) (B : List Nat) (w : World) (e : Ending) (w' : World) : Prop := ∃ B', e = .returned (.tuple #[]) ∧ RN w' b r B' ∧ Kept B w w' ∧ ∀ y ∈ B', y ∈ B ∨ w.heap.size ≤ y
set_option maxHeartbeats 8000000 in
theorem evict8_any (w : World) (b : Nat) (r : Rg) (a : Option Addr) (n c : Nat) (ps : List PgX) (h : RnIs w b r a n c ps) (hn : r.next ≤ 1000000001) (hll : r.ls.length ≤ 2000000) :
    Calls Tryz.prog 44 #[.pointer (some ⟨b, 0, none⟩)] w (Did8 b r.evict (rnB b a c ps) w) := by
  have hH := hide h
  clear h
  go_enter Tryz.func44, Tryz.ntmps44
  go_wp2_with fail
  go_loopg [2, 3, 4, 5, 6, 7, 8, 9, 10, 11, 12, 13, 14, 15, 16, 17, 18, 19, 20, 21, 22, 23, 24, 25, 26, 27, 28, 29, 30, 31, 32, 33, 34, 35, 36, 37, 38, 39, 40, 41, 42, 43, 44, 45, 46, 47, 48, 49, 50, 51, 52, 53] r.ls.length (fun kx s2 s3 s4 s5 s6 s7 s8 s9 s10 s11 s12 s13 s14 s15 s16 s17 s18 s19 s20 s21 s22 s23 s24 s25 s26 s27 s28 s29 s30 s31 s32 s33 s34 s35 s36 s37 s38 s39 s40 s41 s42 s43 s44 s45 s46 s47 s48 s49 s50 s51 s52 s53 wr => ∃ (k : Nat) (a2 : Option Addr) (n2 c2 : Nat) (qs : List PgX), k ≤ r.ls.length - r.limit ∧ r.ls.length - k ≤ kx ∧ Hid (RnIs wr b (dropG r k) a2 n2 c2 qs) ∧ Hid (Kept (rnB b a c ps) w wr ∧ ∀ y ∈ rnB b a2 c2 qs, y ∈ rnB b a c ps ∨ w.heap.size ≤ y))
  case atStart => exact ⟨0, a, n, c, ps, Nat.zero_le _, by omega, hide hH.out, hide ⟨Kept.refl _ _, fun y hy => .inl hy⟩⟩
  case round =>
    obtain ⟨k, a2, n2, c2, qs, hk, hg, hI, hJ⟩ := hrel
    obtain ⟨R, hR⟩ : ∃ R : Rg, dropG r k = R := ⟨_, rfl⟩
    rw [hR] at hI
    have hRl : R.ls.length = r.ls.length - k := by rw [← hR]; simp [dropG]
    have hRm : R.limit = r.limit := by rw [← hR]; rfl
    have hRn : R.next ≤ 1000000001 := by rw [← hR, dropG_next r k (by omega)]; exact hn
    replace hR := hide hR
    replace hRl := hide hRl
    replace hRm := hide hRm
    have hF : ∀ {w' : World}, Kept [] wr w' → w'.cell? ⟨b, 0, none⟩ = some (.int .i64 (R.limit : Nat)) := fun hk => (hI.out.keep hk).box.at.1
    have hL := hide (fun w1 (hk : Kept [] wr w1) => (hI.out.keep hk).lenC hRn)
    have hRl2 : R.ls.length ≤ 2000000 := by rw [hRl.out]; omega
    have hRn2 : R.first + R.ls.length ≤ 1000000001 := hRn
    by_cases hlt : R.limit < R.ls.length
    · have hgt : ((R.ls.length : Nat) : Int) > ((R.limit : Nat) : Int) := by omega
      obtain ⟨p0, qs', rfl⟩ : ∃ p0 qs', qs = p0 :: qs' := by
        cases qs with
        | nil => have h1 := hI.out.llen; simp [shs, lnsS] at h1; omega
        | cons x y => exact ⟨x, y, rfl⟩
      have hn2 : 0 < n2 := by have := hI.out.plen; simp at this; omega
      obtain ⟨g, o, rfl⟩ := hI.out.addr hn2
      obtain ⟨E, hE⟩ : ∃ E : Nat, R.ls.length - R.limit = E := ⟨_, rfl⟩
      obtain ⟨L, hLe⟩ : ∃ L : Nat, p0.s.ls.length = L := ⟨_, rfl⟩
      obtain ⟨d, hd⟩ : ∃ d : Nat, (if E < L then E else L) = d := ⟨_, rfl⟩
      have hL1 : 1 ≤ L := by rw [← hLe]; exact hI.out.one p0 (by simp)
      have hdb : 1 ≤ d ∧ d ≤ L ∧ d ≤ E := by rw [← hd]; split <;> omega
      have hwE : IntKind.i64.wrap (((R.ls.length : Nat) : Int) - ((R.limit : Nat) : Int)) = (E : Int) := by rw [IntKind.wrap_i64]; omega
      obtain ⟨F2, hF2⟩ : ∃ F2 : Nat, R.first + d = F2 := ⟨_, rfl⟩
      have hwF : IntKind.i64.wrap (((R.first : Nat) : Int) + (d : Int)) = ((F2 : Nat) : Int) := by rw [IntKind.wrap_i64]; omega
      have hmin : min ((L : Nat) : Int) ((E : Nat) : Int) = (d : Int) := by rw [← hd]; split <;> omega
      have eS : dropS p0.s (d : Int) = (⟨p0.s.places, p0.s.gone + d, p0.s.ls.drop d⟩, 0) := by unfold dropS; rw [if_neg (by omega)]; simp
      have hpt := hide (fun w1 (hk : Kept [] wr w1) => by have := (hI.out.keep hk).ptAt (k := 0) (p := p0) rfl; rw [Nat.add_zero] at this; exact this : ∀ w1, Kept [] wr w1 → w1.cell? ⟨g, o, none⟩ = some (.pointer (some ⟨p0.b, 0, none⟩)))
      have hPL := hide (fun w1 (hk : Kept [] wr w1) => ((hI.out.keep hk).pgAt (k := 0) (p := p0) rfl).lenC)
      have hPD := hide (fun w1 (hk : Kept [] wr w1) => ((hI.out.keep hk).pgAt (k := 0) (p := p0) rfl).drop (d : Int))
      rw [eS] at hPD
      rw [hLe] at hPL
      have hlen2 : (p0.s.ls.drop d).length = L - d := by rw [List.length_drop, hLe]
      have hpp : (p0.s.places, p0.s.gone) = (p0.s.places, p0.s.gone) := rfl
      have hEQ := hide (pa_drop p0.s (shs qs') d _ eS (by omega) (by omega))
      have hbP : Hid (b ∉ p0.B) := hide (fun hm => hI.out.d2 (blkP_mem.2 ⟨p0, by simp, hm⟩))
      have hgP : Hid (g ∉ p0.B) := hide (fun hm => hI.out.d3 g (by unfold blkC; rw [if_neg (by have := hI.out.mid.caps.1; omega)]; simp [blk]) (blkP_mem.2 ⟨p0, by simp, hm⟩))
      have hbg : Hid (b ≠ g) := hide (fun e => hI.out.d1 (by unfold blkC; rw [if_neg (by have := hI.out.mid.caps.1; omega)]; simp [blk, e]))
      have hdE := hide (And.intro hdb hE)
      replace hd := hide hd
      replace hF2 := hide hF2
      replace hLe := hide hLe
      replace hE := hide hE
      replace hlen2 := hide hlen2
      clear hpp eS
      have hi0 : (0 : Int) < (n2 : Int) := Int.ofNat_lt.2 hn2
      go_upto_region 0 with fail
      refine wp_region_held_drew (S := (fun w' => w'.cell? ⟨b, 0, none⟩ = some (.int .i64 (R.limit : Nat)))) (by kernel_rfl) ?_ (fun hHeld => ?_)
      · (try dsimp only); (first | exact hF k1 | exact hF (Kept.refl [] wr).drew)
      refine wpAnyH_take (i := 0) (v := ?_) rfl (by kernel_rfl) (by kernel_rfl) (by kernel_rfl) (fun _ _ _ h => h) (Or.inl ⟨by rfl, ?_⟩) (by assumption) ?_
      rotate_left
      · (intro wq hSw; (try dsimp only at hSw); go_simp; try with_reducible rfl)
      try simp only [Act.put, List.getElem_toArray, List.getElem_cons_zero, List.setIfInBounds_toArray, List.set_cons_zero, List.set_cons_succ]
      refine wpAnyH_take (i := 2) (v := ?_) rfl (by kernel_rfl) (by kernel_rfl) (by kernel_rfl) (fun _ _ _ h => h) (Or.inl ⟨by rfl, ?_⟩) (by assumption) ?_
      rotate_left
      · (intro wq hSw; (try dsimp only at hSw); go_simp; try with_reducible rfl)
      try simp only [Act.put, List.getElem_toArray, List.getElem_cons_succ, List.getElem_cons_zero, List.setIfInBounds_toArray, List.set_cons_zero, List.set_cons_succ]
      refine wpAnyH_take (i := 3) (v := ?_) rfl (by kernel_rfl) (by kernel_rfl) (by kernel_rfl) (fun _ _ _ h => h) (Or.inl ⟨by rfl, ?_⟩) (by assumption) ?_
      rotate_left
      · (intro wq hSw; (try dsimp only at hSw); go_simp; try with_reducible rfl)
      try simp only [Act.put, List.getElem_toArray, List.getElem_cons_succ, List.getElem_cons_zero, List.setIfInBounds_toArray, List.set_cons_zero, List.set_cons_succ]
      refine wpAnyH_take (i := 4) (v := ?_) rfl (by kernel_rfl) (by kernel_rfl) (by kernel_rfl) (fun _ _ _ h => h) (Or.inl ⟨by rfl, ?_⟩) (by assumption) ?_
      rotate_left
      · (intro wq hSw; (try dsimp only at hSw); go_simp; try with_reducible rfl)
      try simp only [Act.put, List.getElem_toArray, List.getElem_cons_succ, List.getElem_cons_zero, List.setIfInBounds_toArray, List.set_cons_zero, List.set_cons_succ]
      refine wpAnyH_take (i := 5) (v := ?_) rfl (by kernel_rfl) (by kernel_rfl) (by kernel_rfl) (fun _ _ _ h => h) (Or.inl ⟨by rfl, ?_⟩) (by assumption) ?_
      rotate_left
      · (intro wq hSw; (try dsimp only at hSw); go_simp; try with_reducible rfl)
      try simp only [Act.put, List.getElem_toArray, List.getElem_cons_succ, List.getElem_cons_zero, List.setIfInBounds_toArray, List.set_cons_zero, List.set_cons_succ]
      refine wpAnyH_ready (rs := [1]) (by kernel_rfl) (by simp) ?_
      refine AllReadyH.cons rfl (fun K hK => ?_) AllReadyH.nil
      go_simp
      refine (hL.out _ (Kept.refl [] wr).drew).mono ?_; rintro e w1 ⟨rfl, j1⟩; have k1 : Kept [] wr w1 := (Kept.refl [] wr).drew.trans j1 (by simp)
      try go_wp2_with fail
      refine hK.out _ _ ?_ (fun hHeld => ?_)
      · (try dsimp only); (first | exact hF k1 | exact hF (Kept.refl [] wr).drew)
      clear hK K
      try simp only [Act.put, List.getElem_toArray, List.getElem_cons_succ, List.getElem_cons_zero, List.setIfInBounds_toArray, List.set_cons_zero, List.set_cons_succ]
      refine wpAnyH_take (i := 6) (v := ?_) rfl (by kernel_rfl) (by kernel_rfl) (by kernel_rfl) (fun _ _ _ h => h) (Or.inl ⟨by rfl, ?_⟩) (by assumption) ?_
      rotate_left
      · (intro wq hSw; (try dsimp only at hSw); go_simp; try with_reducible rfl)
      try simp only [Act.put, List.getElem_toArray, List.getElem_cons_succ, List.getElem_cons_zero, List.setIfInBounds_toArray, List.set_cons_zero, List.set_cons_succ]
      refine wpAnyH_done (by kernel_rfl) ?_ _
      obtain ⟨q0, q1, q2, q3, q4⟩ := (hI.out.keep k1).box.at
      have q5 := hpt.out w1 k1
      go_upto_region 2 with fail
      clear q0 q1 q2 q3 q4 q5
      refine wp_region_held_drew (S := (fun w' => w'.cell? ⟨b, 0, none⟩ = some (.int .i64 (R.limit : Nat)))) (by kernel_rfl) ?_ (fun hHeld => ?_)
      · (try dsimp only); (first | exact hF k3 | exact hF k2 | exact hF k1.drew)
      refine wpAnyH_take (i := 0) (v := ?_) rfl (by kernel_rfl) (by kernel_rfl) (by kernel_rfl) (fun _ _ _ h => h) (Or.inl ⟨by rfl, ?_⟩) (by assumption) ?_
      rotate_left
      · (intro wq hSw; (try dsimp only at hSw); go_simp; try with_reducible rfl)
      try simp only [Act.put, List.getElem_toArray, List.getElem_cons_zero, List.setIfInBounds_toArray, List.set_cons_zero, List.set_cons_succ]
      refine wpAnyH_take (i := 2) (v := ?_) rfl (by kernel_rfl) (by kernel_rfl) (by kernel_rfl) (fun _ _ _ h => h) (Or.inl ⟨by rfl, ?_⟩) (by assumption) ?_
      rotate_left
      · (intro wq hSw; (try dsimp only at hSw); go_simp; try with_reducible rfl)
      try simp only [Act.put, List.getElem_toArray, List.getElem_cons_succ, List.getElem_cons_zero, List.setIfInBounds_toArray, List.set_cons_zero, List.set_cons_succ]
      refine wpAnyH_take (i := 4) (v := ?_) rfl (by kernel_rfl) (by kernel_rfl) (by kernel_rfl) (fun _ _ _ h => h) (Or.inl ⟨by rfl, ?_⟩) (by assumption) ?_
      rotate_left
      · (intro wq hSw; (try dsimp only at hSw); go_simp; try with_reducible rfl)
      try simp only [Act.put, List.getElem_toArray, List.getElem_cons_succ, List.getElem_cons_zero, List.setIfInBounds_toArray, List.set_cons_zero, List.set_cons_succ]
      refine wpAnyH_take (i := 5) (v := ?_) rfl (by kernel_rfl) (by kernel_rfl) (by kernel_rfl) (fun _ _ _ h => h) (Or.inl ⟨by rfl, ?_⟩) (by assumption) ?_
      rotate_left
      · (intro wq hSw; (try dsimp only at hSw); go_simp; try with_reducible rfl)
      try simp only [Act.put, List.getElem_toArray, List.getElem_cons_succ, List.getElem_cons_zero, List.setIfInBounds_toArray, List.set_cons_zero, List.set_cons_succ]
      refine wpAnyH_take (i := 6) (v := ?_) rfl (by kernel_rfl) (by kernel_rfl) (by kernel_rfl) (fun _ _ _ h => h) (Or.inl ⟨by rfl, ?_⟩) (by assumption) ?_
      rotate_left
      · (intro wq hSw; (try dsimp only at hSw); go_simp; try with_reducible rfl)
      try simp only [Act.put, List.getElem_toArray, List.getElem_cons_succ, List.getElem_cons_zero, List.setIfInBounds_toArray, List.set_cons_zero, List.set_cons_succ]
      refine wpAnyH_take (i := 7) (v := ?_) rfl (by kernel_rfl) (by kernel_rfl) (by kernel_rfl) (fun _ _ _ h => h) (Or.inl ⟨by rfl, ?_⟩) (by assumption) ?_
      rotate_left
      · (intro wq hSw; (try dsimp only at hSw); go_simp; try with_reducible rfl)
      try simp only [Act.put, List.getElem_toArray, List.getElem_cons_succ, List.getElem_cons_zero, List.setIfInBounds_toArray, List.set_cons_zero, List.set_cons_succ]
      refine wpAnyH_ready (rs := [1]) (by kernel_rfl) (by simp) ?_
      refine AllReadyH.cons rfl (fun K hK => ?_) AllReadyH.nil
      go_simp
      refine (hPL.out _ k1.drew).mono ?_; rintro e w2 ⟨rfl, j2⟩; have k2 : Kept [] wr w2 := k1.drew.trans j2 (by simp)
      try go_wp2_with fail
      refine hK.out _ _ ?_ (fun hHeld => ?_)
      · (try dsimp only); (first | exact hF k3 | exact hF k2 | exact hF k1.drew)
      clear hK K
      try simp only [Act.put, List.getElem_toArray, List.getElem_cons_succ, List.getElem_cons_zero, List.setIfInBounds_toArray, List.set_cons_zero, List.set_cons_succ]
      refine wpAnyH_ready (rs := [3]) (by kernel_rfl) (by simp) ?_
      refine AllReadyH.cons rfl (fun K hK => ?_) AllReadyH.nil
      go_simp
      refine (hL.out _ k2).mono ?_; rintro e w3 ⟨rfl, j3⟩; have k3 : Kept [] wr w3 := k2.trans j3 (by simp)
      try go_wp2_with fail
      refine hK.out _ _ ?_ (fun hHeld => ?_)
      · (try dsimp only); (first | exact hF k3 | exact hF k2 | exact hF k1.drew)
      clear hK K
      try simp only [Act.put, List.getElem_toArray, List.getElem_cons_succ, List.getElem_cons_zero, List.setIfInBounds_toArray, List.set_cons_zero, List.set_cons_succ]
      refine wpAnyH_take (i := 8) (v := ?_) rfl (by kernel_rfl) (by kernel_rfl) (by kernel_rfl) (fun _ _ _ h => h) (Or.inl ⟨by rfl, ?_⟩) (by assumption) ?_
      rotate_left
      · (intro wq hSw; (try dsimp only at hSw); go_simp; try with_reducible rfl)
      try simp only [Act.put, List.getElem_toArray, List.getElem_cons_succ, List.getElem_cons_zero, List.setIfInBounds_toArray, List.set_cons_zero, List.set_cons_succ]
      refine wpAnyH_take (i := 9) (v := ?_) rfl (by kernel_rfl) (by kernel_rfl) (by kernel_rfl) (fun _ _ _ h => h) (Or.inl ⟨by rfl, ?_⟩) (by assumption) ?_
      rotate_left
      · (intro wq hSw; (try dsimp only at hSw); go_simp; try with_reducible rfl)
      try simp only [Act.put, List.getElem_toArray, List.getElem_cons_succ, List.getElem_cons_zero, List.setIfInBounds_toArray, List.set_cons_zero, List.set_cons_succ]
      refine wpAnyH_take (i := 10) (v := ?_) rfl (by kernel_rfl) (by kernel_rfl) (by kernel_rfl) (fun _ _ _ h => h) (Or.inl ⟨by rfl, ?_⟩) (by assumption) ?_
      rotate_left
      · (intro wq hSw; (try dsimp only at hSw); go_simp; try with_reducible rfl)
      try simp only [Act.put, List.getElem_toArray, List.getElem_cons_succ, List.getElem_cons_zero, List.setIfInBounds_toArray, List.set_cons_zero, List.set_cons_succ]
      refine wpAnyH_done (by kernel_rfl) ?_ _
      go_wp2_with fail
      refine (hPD.out _ k3).mono ?_
      rintro e w4 ⟨B', rfl, p1, p2, p3⟩
      have hbx4 := hide ((hI.out.keep k3).box.kept p2 hbP.out)
      obtain ⟨q0, q1, q2, q3, q4⟩ := hbx4.out.at
      have f2 := hbx4.out.froz 2
      go_upto_region 5 with fail
      have hb5 := hide (hbx4.out.setF ((F2 : Nat) : Int))
      have j5 : Kept [b] w4 (w4.setCell ⟨b, 2, none⟩ (.int .i64 ((F2 : Nat) : Int))) := (Kept.refl _ _).setCell (.inl (by simp)) _
      have hP : Paged w3 w4 (p0 :: qs') 0 p0 B' ⟨p0.s.places, p0.s.gone + d, p0.s.ls.drop d⟩ := ⟨p1, p2, p3⟩
      have hraw4 := (hI.out.keep k3).toRnRaw.paged (k := 0) (p := p0) rfl hP rfl
      obtain ⟨hn4, hn4b⟩ := RnIs.paged_nw (b := b) (a := some ⟨g, o, none⟩) (c := c2) (k := 0) (p := p0) rfl hP
      have hraw5 := hide (hraw4.boxed hb5.out j5 (fun y hy => by simpa using hy))
      have hk5 : Hid (Kept (rnB b (some ⟨g, o, none⟩) c2 (p0 :: qs')) wr (w4.setCell ⟨b, 2, none⟩ (.int .i64 ((F2 : Nat) : Int)))) := hide (((k3.mono (by simp)).trans hn4 (fun y hy => .inl hy)).trans j5 (fun y hy => by simp at hy; subst hy; exact .inl (rnB_mem.2 (.inl rfl))))
      have hs3 := k3.size
      have hnw5 : Hid (∀ y ∈ rnB b (some ⟨g, o, none⟩) c2 (⟨p0.b, ⟨p0.s.places, p0.s.gone + d, p0.s.ls.drop d⟩, B'⟩ :: qs'), y ∈ rnB b (some ⟨g, o, none⟩) c2 (p0 :: qs') ∨ wr.heap.size ≤ y) := hide (fun y hy => (hn4b y hy).imp id (fun h => Nat.le_trans hs3 h))
      have hpg5 : Hid (PG (w4.setCell ⟨b, 2, none⟩ (.int .i64 ((F2 : Nat) : Int))) p0.b ⟨p0.s.places, p0.s.gone + d, p0.s.ls.drop d⟩ B') := hide (hraw5.out.pgs ⟨p0.b, _, B'⟩ (by simp))
      clear hraw4 hn4 hn4b hP p1 p2 p3 q0 q1 q2 q3 q4 f2
      generalize w4.setCell ⟨b, 2, none⟩ (.int .i64 ((F2 : Nat) : Int)) = w5 at *
      have hL5 := hide (hpg5.out.lenC)
      have hEQ2 := hide hEQ.out.2
      have hlen2' : ((p0.s.ls.drop d).length : Int) = ((L - d : Nat) : Int) := by rw [hlen2.out]
      simp only [hlen2.out] at hL5
      clear hlen2'
      have hdims : d ≤ L := hdb.2.1
      obtain ⟨M, hM⟩ : ∃ M : Nat, L - d = M := ⟨_, rfl⟩
      rw [hM] at hL5
      replace hM := hide hM
      by_cases hz : M = 0
      · subst hz
        have hraw := hraw5.out
        have hm5 := hraw.mid
        have f0 := (hm5.cellAt rowPt (i := 0) (j := 0) (u := .pointer (some ⟨p0.b, 0, none⟩)) (by simp [ptL]) (by simp [ptV, ptL])).2
        have c0 := (hm5.cellAt rowPt (i := 0) (j := 0) (u := .pointer (some ⟨p0.b, 0, none⟩)) (by simp [ptL]) (by simp [ptV, ptL])).1
        simp only [Nat.zero_mul, Nat.add_zero] at f0 c0
        have hcap := hm5.caps
        obtain ⟨a3, hcut, hsubC, hmid⟩ := mid_slice_l (P := Tryz.prog) rowPt Tryz.underlying56 szPtr (some ⟨g, o, none⟩) n2 c2 1 (by omega) hcap.1 hcap.2
        have hcut1 : ∀ w1, (Instr.slice 56 (.slice (some ⟨g, o, none⟩) n2 c2) (some (.int .i64 1)) none none).run Tryz.prog w1 = .ok (.slice a3 (n2 - 1) (c2 - 1)) w1 := hcut
        clear hcut
        have hC : blkC (some ⟨g, o, none⟩) c2 = [g] := by unfold blkC; rw [if_neg (by omega)]; rfl
        have hsubC := hide hsubC
        have hmid := hide hmid
        have hm5 := hide hm5
        go_wp2_with fail
        refine hL5.out.mono ?_
        rintro e w6 ⟨rfl, j6⟩
        have hb6 := hide (hraw.box.kept j6 (by simp))
        obtain ⟨q0, q1, q2, q3, q4⟩ := hb6.out.at
        have c6 := j6.cell c0 (by simp)
        have f6 := j6.frozen c0 f0 (by simp)
        clear c0 f0
        go_upto_region 7 with fail
        have hm7 := (hm5.out.kept j6 (by simp)).setOne rowPt (i := 0) (j := 0) (v := .pointer none) (d := none) (by simp [ptL]) (by decide) (by simp [ptV])
        simp only [Nat.zero_mul, Nat.add_zero] at hm7
        have j7 : Kept [g] w6 (w6.setCell ⟨g, o, none⟩ (.pointer none)) := (Kept.refl _ _).setCell (.inl (by simp)) _
        have hb7 := hide (hb6.out.kept j7 (by simpa using hbg.out))
        clear q0 q1 q2 q3 q4 c6 f6
        generalize w6.setCell ⟨g, o, none⟩ (.pointer none) = w7 at *
        obtain ⟨q0, q1, q2, q3, q4⟩ := hb7.out.at
        have f4 := hb7.out.froz 4
        go_wp2_with fail
        have hb8 := hb7.out.setP a3 (n2 - 1) (c2 - 1)
        have j8 : Kept [b] w7 (w7.setCell ⟨b, 4, none⟩ (.slice a3 (n2 - 1) (c2 - 1))) := (Kept.refl _ _).setCell (.inl (by simp)) _
        have hm8 := hmid.out w7 _ hm7
        have em : (((ptL (⟨p0.b, ⟨p0.s.places, p0.s.gone + d, p0.s.ls.drop d⟩, B'⟩ :: qs')).set 0 none).drop 1) = ptL qs' := by simp [ptL]
        simp only [List.set_cons_zero] at hm8
        rw [em] at hm8
        obtain ⟨u1, u2, u3⟩ := hraw.cut (qs := qs') (List.sublist_cons_self _ _) (by rw [hC]; exact (j6.mono (by simp)).trans j7 (fun y hy => .inl hy)) hm8 hsubC.out hb8 j8
        go_roundg (r.ls.length - (k + d))
        case measure => have := hRl.out; omega
        case rel =>
          have hls0 : p0.s.ls.drop d = [] := List.eq_nil_of_length_eq_zero (by rw [hlen2.out]; exact hM.out)
          obtain ⟨v1, v2⟩ := hEQ2.out.1 hls0
          have hRi := hI.out
          have hnx : (dropG R d).next = R.next := dropG_next R d (by have := hdE.out; omega)
          refine ⟨k + d, a3, n2 - 1, c2 - 1, qs', by have := hdE.out; have := hRl.out; have := hRm.out; omega, Nat.le_refl _, hide ?_, hide ⟨(hJ.out.1.trans hk5.out (fun y hy => (hJ.out.2 y hy))).trans u2 (fun y hy => ?_), fun y hy => ?_⟩⟩
          · rw [← dropG_add, hR.out]
            refine ⟨?_, ?_, ?_, hRi.wf.drop d⟩
            · rw [hnx]
              show RnRaw _ b R.limit R.places ((R.first + d : Nat) : Int) R.next R.places _ _ _ _
              rw [hF2.out]
              exact u1
            · show lnsS (shs qs') = R.ls.drop d
              rw [v2, ← hRi.ls]
              rfl
            · show (shs qs').map paS = dropPs d R.ps
              rw [← v1, ← hRi.pa]
              rfl
          · rcases hnw5.out y hy with h1 | h1
            · exact hJ.out.2 y h1
            · exact .inr (Nat.le_trans hJ.out.1.size h1)
          · rcases hnw5.out y (u3 y hy) with h1 | h1
            · exact hJ.out.2 y h1
            · exact .inr (Nat.le_trans hJ.out.1.size h1)
      · have hne : (((M : Nat) : Int) == 0) = false := by simp; omega
        go_wp2_with fail
        refine hL5.out.mono ?_
        rintro e w6 ⟨rfl, j6⟩
        go_wp2_with fail
        go_roundg (r.ls.length - (k + d))
        case measure => have := hRl.out; omega
        case rel =>
          have hls0 : p0.s.ls.drop d ≠ [] := fun e => by have := hlen2.out; rw [e] at this; have := hM.out; simp at *; omega
          obtain ⟨v1, v2⟩ := hEQ2.out.2 hls0
          have hRi := hI.out
          have hnx : (dropG R d).next = R.next := dropG_next R d (by have := hdE.out; omega)
          refine ⟨k + d, some ⟨g, o, none⟩, n2, c2, ⟨p0.b, ⟨p0.s.places, p0.s.gone + d, p0.s.ls.drop d⟩, B'⟩ :: qs', by have := hdE.out; have := hRl.out; have := hRm.out; omega, Nat.le_refl _, hide ?_, hide ⟨(hJ.out.1.trans hk5.out (fun y hy => (hJ.out.2 y hy))).trans j6 (by simp), fun y hy => ?_⟩⟩
          · rw [← dropG_add, hR.out]
            refine ⟨?_, ?_, ?_, hRi.wf.drop d⟩
            · rw [hnx]
              show RnRaw _ b R.limit R.places ((R.first + d : Nat) : Int) R.next R.places _ _ _ _
              rw [hF2.out]
              exact hraw5.out.keep j6
            · show lnsS (shs _) = R.ls.drop d
              rw [← hRi.ls]
              exact v2
            · show (shs _).map paS = dropPs d R.ps
              rw [← hRi.pa]
              exact v1.symm
          · rcases hnw5.out y hy with h1 | h1
            · exact hJ.out.2 y h1
            · exact .inr (Nat.le_trans hJ.out.1.size h1)
    · have hle : ¬ ((R.ls.length : Nat) : Int) > ((R.limit : Nat) : Int) := by omega
      go_upto_region 0 with fail
      refine wp_region_held_drew (S := (fun w' => w'.cell? ⟨b, 0, none⟩ = some (.int .i64 (R.limit : Nat)))) (by kernel_rfl) ?_ (fun hHeld => ?_)
      · (try dsimp only); (first | exact hF k1 | exact hF (Kept.refl [] wr).drew)
      refine wpAnyH_take (i := 0) (v := ?_) rfl (by kernel_rfl) (by kernel_rfl) (by kernel_rfl) (fun _ _ _ h => h) (Or.inl ⟨by rfl, ?_⟩) (by assumption) ?_
      rotate_left
      · (intro wq hSw; (try dsimp only at hSw); go_simp; try with_reducible rfl)
      try simp only [Act.put, List.getElem_toArray, List.getElem_cons_zero, List.setIfInBounds_toArray, List.set_cons_zero, List.set_cons_succ]
      refine wpAnyH_take (i := 2) (v := ?_) rfl (by kernel_rfl) (by kernel_rfl) (by kernel_rfl) (fun _ _ _ h => h) (Or.inl ⟨by rfl, ?_⟩) (by assumption) ?_
      rotate_left
      · (intro wq hSw; (try dsimp only at hSw); go_simp; try with_reducible rfl)
      try simp only [Act.put, List.getElem_toArray, List.getElem_cons_succ, List.getElem_cons_zero, List.setIfInBounds_toArray, List.set_cons_zero, List.set_cons_succ]
      refine wpAnyH_take (i := 3) (v := ?_) rfl (by kernel_rfl) (by kernel_rfl) (by kernel_rfl) (fun _ _ _ h => h) (Or.inl ⟨by rfl, ?_⟩) (by assumption) ?_
      rotate_left
      · (intro wq hSw; (try dsimp only at hSw); go_simp; try with_reducible rfl)
      try simp only [Act.put, List.getElem_toArray, List.getElem_cons_succ, List.getElem_cons_zero, List.setIfInBounds_toArray, List.set_cons_zero, List.set_cons_succ]
      refine wpAnyH_take (i := 4) (v := ?_) rfl (by kernel_rfl) (by kernel_rfl) (by kernel_rfl) (fun _ _ _ h => h) (Or.inl ⟨by rfl, ?_⟩) (by assumption) ?_
      rotate_left
      · (intro wq hSw; (try dsimp only at hSw); go_simp; try with_reducible rfl)
      try simp only [Act.put, List.getElem_toArray, List.getElem_cons_succ, List.getElem_cons_zero, List.setIfInBounds_toArray, List.set_cons_zero, List.set_cons_succ]
      refine wpAnyH_take (i := 5) (v := ?_) rfl (by kernel_rfl) (by kernel_rfl) (by kernel_rfl) (fun _ _ _ h => h) (Or.inl ⟨by rfl, ?_⟩) (by assumption) ?_
      rotate_left
      · (intro wq hSw; (try dsimp only at hSw); go_simp; try with_reducible rfl)
      try simp only [Act.put, List.getElem_toArray, List.getElem_cons_succ, List.getElem_cons_zero, List.setIfInBounds_toArray, List.set_cons_zero, List.set_cons_succ]
      refine wpAnyH_ready (rs := [1]) (by kernel_rfl) (by simp) ?_
      refine AllReadyH.cons rfl (fun K hK => ?_) AllReadyH.nil
      go_simp
      refine (hL.out _ (Kept.refl [] wr).drew).mono ?_; rintro e w1 ⟨rfl, j1⟩; have k1 : Kept [] wr w1 := (Kept.refl [] wr).drew.trans j1 (by simp)
      try go_wp2_with fail
      refine hK.out _ _ ?_ (fun hHeld => ?_)
      · (try dsimp only); (first | exact hF k1 | exact hF (Kept.refl [] wr).drew)
      clear hK K
      try simp only [Act.put, List.getElem_toArray, List.getElem_cons_succ, List.getElem_cons_zero, List.setIfInBounds_toArray, List.set_cons_zero, List.set_cons_succ]
      refine wpAnyH_take (i := 6) (v := ?_) rfl (by kernel_rfl) (by kernel_rfl) (by kernel_rfl) (fun _ _ _ h => h) (Or.inl ⟨by rfl, ?_⟩) (by assumption) ?_
      rotate_left
      · (intro wq hSw; (try dsimp only at hSw); go_simp; try with_reducible rfl)
      try simp only [Act.put, List.getElem_toArray, List.getElem_cons_succ, List.getElem_cons_zero, List.setIfInBounds_toArray, List.set_cons_zero, List.set_cons_succ]
      refine wpAnyH_done (by kernel_rfl) ?_ _
      go_wp2_with fail
      go_end0
      have hkk : k = r.ls.length - r.limit := by have := hRl.out; have := hRm.out; omega
      refine ⟨_, rfl, ⟨a2, n2, c2, qs, ?_, rfl, ?_⟩, hJ.out.1.trans k1 (by simp), hJ.out.2⟩
      · rw [evict_drop, ← hkk, hR.out]
        exact hI.out.keep k1
      · rw [evict_drop, ← hkk, hR.out]
        omega
end Go.Proofs.YtnkddhmhjnhgcaaGreatDoor
