/- Layer 8: the law RingLongs. -/
import Derived.Test.YtnkddhmhjnhgcaaDoorRnLong
import Derived.Test.YtnkddhmhjnhgcaaDoorRnKn
namespace Go.Proofs.YtnkddhmhjnhgcaaDoor
open Go.RowKit
set_option linter.unusedVariables false
set_option maxRecDepth 100000

/-- Where a law's walk stands: the tables, a ring of the law's own, nothing that there was at its start has changed. -/
structure AtR (w0 w : World) (b : Nat) (r : Rg) : Prop where
  tb : Tabs w
  pn : RP (fun y => w0.heap.size ≤ y) w b r
  kp : Kept [] w0 w
section
variable {w0 w w' : World} {b : Nat} {r r' : Rg}
theorem AtR.keep (h : AtR w0 w b r) (hk : Kept [] w w') : AtR w0 w' b r := ⟨h.tb.kept hk, h.pn.keep hk, h.kp.trans hk (by simp)⟩
theorem AtR.hn (h : AtR w0 w b r) : ∀ y, w.heap.size ≤ y → w0.heap.size ≤ y := fun y hy => Nat.le_trans h.kp.size hy
theorem AtR.next (h : AtR w0 w b r) (h2 : 2 ≤ w0.heap.size) (hp : RP (fun y => w0.heap.size ≤ y) w' b r') (hk : KO (fun y => w0.heap.size ≤ y) w w') : AtR w0 w' b r' :=
  ⟨hk.tabs h.tb (by omega) (by omega), hp, hk.none h.kp (fun y hy => hy)⟩
/-- A line that was made behind w, where the ring was. -/
theorem AtR.pushes (h : AtR w0 w b r) (h2 : 2 ≤ w0.heap.size) (hk : Kept [] w w') (a1 : Option Addr) (n1 c1 : Nat) (x : Ln) (hr1 : Rd w' a1 n1 16 (cellsV x.l)) (hd : ∀ y ∈ blk a1, w.heap.size ≤ y) (hx : r.next ≤ 1000000000) (hz : (pushG r x).2 = 0) :
    Calls Tryd.prog 10 #[.pointer (some ⟨b, 0, none⟩), .agg #[.slice a1 n1 c1, .bool x.s], .int .i64 ((r.next : Nat) : Int), .int .i64 0] w' fun e w2 => e = .returned (.bool true) ∧ AtR w0 w2 b (pushG r x).1 := by
  obtain ⟨B, k1, k2⟩ := h.pn
  have hlt := k1.lt
  have hA := h.keep hk
  refine (pushes8_any b r B a1 n1 c1 x r.next 0 true w' (k1.kept hk (by simp)) hx hA.tb hr1 (fun y hy => by have := k2 y hy; omega) (fun y hy hm => by have := hd y (blkN_sub'' hy); have := hlt y hm; omega) (by rw [hz]; simp)).mono ?_
  rintro e w2 ⟨he, B', j1, j2, j3⟩
  exact ⟨he, hA.next h2 ⟨B', j1, give8 hA.hn k2 j3⟩ ⟨B, j2, k2⟩⟩
end
section
variable {w0 w : World} {b : Nat} {r : Rg}
theorem AtR.first (h : AtR w0 w b r) (h2 : 2 ≤ w0.heap.size) (z : Int) (hz : ((r.first : Nat) : Int) = z) : Calls Tryd.prog 12 #[.pointer (some ⟨b, 0, none⟩)] w fun e w' => e = .returned (.int .i64 z) ∧ AtR w0 w' b r :=
  (first_n h.pn z hz).mono fun e w' h' => ⟨h'.1, h.next h2 h'.2.1 h'.2.2⟩
theorem AtR.nexts (h : AtR w0 w b r) (h2 : 2 ≤ w0.heap.size) (z : Int) (hz : ((r.next : Nat) : Int) = z) : Calls Tryd.prog 13 #[.pointer (some ⟨b, 0, none⟩)] w fun e w' => e = .returned (.int .i64 z) ∧ AtR w0 w' b r :=
  (next_n h.pn z hz).mono fun e w' h' => ⟨h'.1, h.next h2 h'.2.1 h'.2.2⟩
theorem AtR.pages (h : AtR w0 w b r) (h2 : 2 ≤ w0.heap.size) (z : Int) (hz : ((r.ps.length : Nat) : Int) = z) : Calls Tryd.prog 14 #[.pointer (some ⟨b, 0, none⟩)] w fun e w' => e = .returned (.int .i64 z) ∧ AtR w0 w' b r :=
  (pages_n h.pn z hz).mono fun e w' h' => ⟨h'.1, h.next h2 h'.2.1 h'.2.2⟩
theorem AtR.len (h : AtR w0 w b r) (h2 : 2 ≤ w0.heap.size) (z : Int) (hz : ((r.ls.length : Nat) : Int) = z) : Calls Tryd.prog 21 #[.pointer (some ⟨b, 0, none⟩)] w fun e w' => e = .returned (.int .i64 z) ∧ AtR w0 w' b r :=
  (len_n h.pn z hz).mono fun e w' h' => ⟨h'.1, h.next h2 h'.2.1 h'.2.2⟩
theorem AtR.gets (h : AtR w0 w b r) (h2 : 2 ≤ w0.heap.size) (i : Int) (a2 : Option Addr) (n2 c2 : Nat) (s2 : Bool) (m : List Cl) (no : Int) (v : Bool) (hr2 : Rd w a2 n2 16 (cellsV m)) (hx : r.next ≤ 1000000000) (hv : (decide ((getG r i).1.s = s2 ∧ (getG r i).1.l = m) && decide ((getG r i).2 = no)) = v) :
    Calls Tryd.prog 17 #[.pointer (some ⟨b, 0, none⟩), .int .i64 i, .agg #[.slice a2 n2 c2, .bool s2], .int .i64 no] w fun e w' => e = .returned (.bool v) ∧ AtR w0 w' b r :=
  (gets_n h.pn i a2 n2 c2 s2 m no v hr2 hx hv).mono fun e w' h' => ⟨h'.1, h.next h2 h'.2.1 h'.2.2⟩
theorem AtR.range (h : AtR w0 w b r) (hx : r.next ≤ 1000000000) (f t : Int) : Calls Tryd.prog 15 #[.pointer (some ⟨b, 0, none⟩), .int .i64 f, .int .i64 t] w (Range8Ret r f t w) := by
  obtain ⟨B, ⟨a, n, c, ps, h1, rfl, h3⟩, _⟩ := h.pn
  exact Range8_any w b r a n c ps h1 h3 hx f t
theorem AtR.ok (h : AtR w0 w b r) : rgOk r := by
  obtain ⟨B, h1, _⟩ := h.pn
  exact h1.ok
end
theorem LongIs.range {M P k : Nat} {r : Rg} (h : LongIs M P k r) : rangeG r ((k - M : Nat) : Int) (k : Int) = (Lr (k - M) (min k M), 0) := by
  have hn := h.next
  obtain ⟨h1, h2, h3, h4⟩ := h
  unfold rangeG
  rw [if_neg (by omega), if_neg (by omega), h3, h4]
  simp only [Int.toNat_natCast]
  rw [List.take_of_length_le (by rw [Lr_len]; omega), Nat.sub_self, List.drop_zero]
theorem LongIs.gone {M P k : Nat} {r : Rg} (h : LongIs M P k r) (h0 : 0 < k - M) : getG r (((k - M : Nat) : Int) - 1) = (noLn, 14) := by
  have hn := h.next
  have h3 := h.2.2.1
  have e : atG r (((k - M : Nat) : Int) - 1) = 14 := by
    unfold atG
    rw [if_neg (by omega), if_pos (by omega)]
  unfold getG
  rw [e, if_neg (by decide)]
theorem Lr_at (lo n i : Nat) (h : i < (Lr lo n).length) : (Lr lo n)[i] = ⟨[runeC (97 + (((lo + i) % 26 : Nat) : Int))], false⟩ := by
  simp only [Lr, List.getElem_map, List.getElem_range', Nat.one_mul]
  rfl
set_option maxHeartbeats 20000000 in
theorem ringLongs_any (k1 k2 k3 : Int) (h1 : 0 ≤ k1 ∧ k1 ≤ 65535) (h2 : 0 ≤ k2 ∧ k2 ≤ 65535) (h3 : 0 ≤ k3 ∧ k3 ≤ 65535) (w : World) (ht : Tabs w) :
    Calls Tryd.prog 3 #[.int .u16 k1, .int .u16 k2, .int .u16 k3] w fun e w' => e = .returned (.bool true) ∧ Kept [] w w' := by
  have hkn0 := hide (fun w1 (hk : Kept [] w w1) => Known8.at known8_any (ht.kept hk))
  have hw2 := hide (tabs_lt8 ht)
  have ht0 := hide ht
  clear ht
  by_cases hout : k1 > 3000 ∨ k2 > 2000 ∨ k3 < 1 ∨ k3 > 1024
  · by_cases q1 : k1 > 3000 <;> by_cases q2 : k2 > 2000 <;> by_cases q3 : k3 < 1 <;> by_cases q4 : k3 > 1024 <;> first
      | (exfalso; omega)
      | (clear hout
         go_enter Tryd.func3, Tryd.ntmps3
         go_wp2_with fail
         refine (hkn0.out w (Kept.refl [] w)).mono ?_
         rintro e w1 ⟨rfl, hk1⟩
         go_wp2_with fail
         go_ret
         exact ⟨rfl, hk1⟩)
  · have q1 : ¬ k1 > 3000 := by omega
    have q2 : ¬ k2 > 2000 := by omega
    have q3 : ¬ k3 < 1 := by omega
    have q4 : ¬ k3 > 1024 := by omega
    clear hout
    obtain ⟨N, rfl⟩ : ∃ P : Nat, k1 = P := ⟨k1.toNat, by omega⟩
    obtain ⟨M, rfl⟩ : ∃ P : Nat, k2 = P := ⟨k2.toNat, by omega⟩
    obtain ⟨P, rfl⟩ : ∃ P : Nat, k3 = P := ⟨k3.toNat, by omega⟩
    have c1 : IntKind.i64.wrap (N : Int) = (N : Int) := by rw [IntKind.wrap_i64]; omega
    have c2 : IntKind.i64.wrap (M : Int) = (M : Int) := by rw [IntKind.wrap_i64]; omega
    have c3 : IntKind.i64.wrap (P : Int) = (P : Int) := by rw [IntKind.wrap_i64]; omega
    have hpp : ∀ (b : Nat) w1, (binOp .eql 24 (.pointer (some ⟨b, 0, none⟩)) (.pointer none)).run Tryd.prog w1 = .ok (.bool false) w1 := fun b w1 => by kernel_rfl
    go_enter Tryd.func3, Tryd.ntmps3
    go_wp2_with fail
    refine (New8_any (M : Int) (P : Int) w).mono ?_
    rintro e w1 ⟨hk1, hyes, _⟩
    obtain ⟨b, B, rfl, hpg, hB⟩ := hyes (by omega)
    have hA : Hid (∃ r, AtR w w1 b r ∧ LongIs M P 0 r) := hide ⟨_, ⟨ht0.out.kept hk1, ⟨B, hpg, hB⟩, hk1⟩, by simp, by simp, by simp, by simp [Lr]⟩
    have hpb := hpp b
    clear hyes hpg hB hpp hk1
    go_wp2_with fail
    go_loopg [9, 43, 44, 45, 46, 47, 48, 49, 50, 51, 52, 53, 54, 55, 56, 57] N (fun kx s9 s43 s44 s45 s46 s47 s48 s49 s50 s51 s52 s53 s54 s55 s56 s57 wr => ∃ k : Nat, s9 = .int .i64 k ∧ k ≤ N ∧ N - k ≤ kx ∧ Hid (∃ r, AtR w wr b r ∧ LongIs M P k r))
    case atStart => exact ⟨0, rfl, Nat.zero_le _, by omega, hA⟩
    case round =>
      obtain ⟨k, rfl, hk, hg, hAt⟩ := hrel
      by_cases hlt : k < N
      · have hkn : (k : Int) < (N : Int) := by omega
        have hmod : Int.tmod (k : Int) 26 = ((k % 26 : Nat) : Int) := rfl
        have hq : k % 26 < 26 := Nat.mod_lt _ (by decide)
        have hx : Hid (letter k = ⟨[runeC (97 + ((k % 26 : Nat) : Int))], false⟩) := hide rfl
        generalize k % 26 = q at *
        have c4 : IntKind.i64.wrap (97 + (q : Int)) = 97 + (q : Int) := by rw [IntKind.wrap_i64]; omega
        have c5 : IntKind.i32.wrap (97 + (q : Int)) = 97 + (q : Int) := by rw [IntKind.wrap_i32]; omega
        have c6 : IntKind.i64.wrap (q : Int) = (q : Int) := by rw [IntKind.wrap_i64]; omega
        have c7 : IntKind.i64.wrap ((k : Int) + 1) = (k : Int) + 1 := by rw [IntKind.wrap_i64]; omega
        go_wp2_with fail
        refine (text8_any (97 + (q : Int)) wr).mono ?_
        rintro e x1 ⟨a1, n1, d1, rfl, ho1, h1a, h1b, j1⟩
        obtain ⟨r, hr, hL⟩ := hAt.out
        have hnx := hide hL.next
        have hP := hide (hr.pushes hw2.out j1 a1 n1 d1 ⟨[runeC (97 + (q : Int))], false⟩ ho1.rd (fun y hy => (ho1.ge y hy).1) (by rw [hnx.out]; omega) (by rw [← hx.out]; exact hL.push.1))
        have hL2 := hide (hx.out ▸ hL.push.2)
        clear hr hL
        rw [hnx.out] at hP
        clear hnx
        go_wp2_with fail
        refine hP.out.mono ?_
        rintro e x2 ⟨rfl, hA2⟩
        go_wp2_with fail
        go_roundg (N - (k + 1))
        case measure => omega
        case rel => exact ⟨k + 1, by push_cast; rfl, by omega, Nat.le_refl _, hide ⟨_, hA2, hL2.out⟩⟩
      · obtain rfl : k = N := by omega
        obtain ⟨r, hr, hL⟩ := hAt.out
        have c4 : IntKind.i64.wrap ((k : Int) - (M : Int)) = (k : Int) - (M : Int) := by rw [IntKind.wrap_i64]; omega
        obtain ⟨z, hz⟩ : ∃ z : Nat, max (0 : Int) ((k : Int) - (M : Int)) = (z : Int) := ⟨k - M, by omega⟩
        have hzk := hide (show z = k - M by omega)
        have hnx := hide (show ((r.next : Nat) : Int) = (k : Int) by rw [hL.next])
        have hnl := hide (show r.next ≤ 1000000000 by rw [hL.next]; omega)
        have hfs := hide (show ((r.first : Nat) : Int) = (z : Int) by rw [hL.2.2.1]; omega)
        have hpg := hide (show r.ps.length ≤ M / P + 2 by have := pages_lim hr.ok; rwa [hL.1, hL.2.1] at this)
        have hrg := hide (show rangeG r (z : Int) (k : Int) = (Lr z (min k M), 0) by rw [hzk.out]; exact hL.range)
        have hgn := hide (fun h0 : 0 < z => (by rw [hzk.out]; exact hL.gone (by have := hzk.out; omega) : getG r ((z : Int) - 1) = (noLn, 14)))
        have hP0 : ¬ P = 0 := by omega
        have hPi : ¬ (P : Int) = 0 := by omega
        have hPb : ((P : Int) == 0) = false := by simp; omega
        have hM : M / P ≤ M := Nat.div_le_self _ _
        have hq : (M : Int) / (P : Int) = ((M / P : Nat) : Int) := rfl
        have hq2 : Int.tdiv (M : Int) (P : Int) = ((M / P : Nat) : Int) := rfl
        generalize M / P = Q at *
        have c5 : IntKind.i64.wrap (Q : Int) = (Q : Int) := by rw [IntKind.wrap_i64]; omega
        have c6 : IntKind.i64.wrap ((Q : Int) + 2) = (Q : Int) + 2 := by rw [IntKind.wrap_i64]; omega
        obtain ⟨p, hp⟩ : ∃ p : Nat, r.ps.length = p := ⟨_, rfl⟩
        rw [hp] at hpg
        have c7 : decide ((Q : Int) + 2 < (p : Int)) = false := by have := hpg.out; simp; omega
        replace hp := hide hp
        clear hL
        have hAr := hide hr
        clear hr hAt
        go_upto_region 12 with fail
        replace hz := hide hz
        refine wp_region_held_drew (S := (fun w1 => AtR w w1 b r)) (by kernel_rfl) ?_ (fun hHeld => ?_)
        · (try dsimp only); (first | exact hB3 | exact hB2 | exact hB1 | exact hAr.out.keep (Kept.refl [] _).drew)
        refine wpAnyH_take (i := 0) (v := ?_) rfl (by kernel_rfl) (by kernel_rfl) (by kernel_rfl) (fun _ _ _ h => h) (Or.inl ⟨by rfl, ?_⟩) (by assumption) ?_
        rotate_left
        · (intro wq hSw; (try dsimp only at hSw); go_simp; try with_reducible rfl)
        try simp only [Act.put, List.getElem_toArray, List.getElem_cons_zero, List.setIfInBounds_toArray, List.set_cons_zero, List.set_cons_succ]
        refine wpAnyH_take (i := 2) (v := ?_) rfl (by kernel_rfl) (by kernel_rfl) (by kernel_rfl) (fun _ _ _ h => h) (Or.inl ⟨by rfl, ?_⟩) (by assumption) ?_
        rotate_left
        · (intro wq hSw; (try dsimp only at hSw); go_simp; try with_reducible rfl)
        try simp only [Act.put, List.getElem_toArray, List.getElem_cons_succ, List.getElem_cons_zero, List.setIfInBounds_toArray, List.set_cons_zero, List.set_cons_succ]
        refine wpAnyH_ready (rs := [1]) (by kernel_rfl) (by simp) ?_
        refine AllReadyH.cons rfl (fun K hK => ?_) AllReadyH.nil
        go_simp
        refine (AtR.first hHeld hw2.out (z : Int) hfs.out).mono ?_; rintro e x1 ⟨rfl, hB1⟩
        try go_wp2_with fail
        refine hK.out _ _ ?_ (fun hHeld => ?_)
        · (try dsimp only); (first | exact hB3 | exact hB2 | exact hB1 | exact hAr.out.keep (Kept.refl [] _).drew)
        clear hK K
        try simp only [Act.put, List.getElem_toArray, List.getElem_cons_succ, List.getElem_cons_zero, List.setIfInBounds_toArray, List.set_cons_zero, List.set_cons_succ]
        refine wpAnyH_take (i := 3) (v := ?_) rfl (by kernel_rfl) (by kernel_rfl) (by kernel_rfl) (fun _ _ _ h => h) (Or.inl ⟨by rfl, ?_⟩) (by assumption) ?_
        rotate_left
        · (intro wq hSw; (try dsimp only at hSw); go_simp; try with_reducible rfl)
        try simp only [Act.put, List.getElem_toArray, List.getElem_cons_succ, List.getElem_cons_zero, List.setIfInBounds_toArray, List.set_cons_zero, List.set_cons_succ]
        refine wpAnyH_take (i := 4) (v := ?_) rfl (by kernel_rfl) (by kernel_rfl) (by kernel_rfl) (fun _ _ _ h => h) (Or.inl ⟨by rfl, ?_⟩) (by assumption) ?_
        rotate_left
        · (intro wq hSw; (try dsimp only at hSw); go_simp; try with_reducible rfl)
        try simp only [Act.put, List.getElem_toArray, List.getElem_cons_succ, List.getElem_cons_zero, List.setIfInBounds_toArray, List.set_cons_zero, List.set_cons_succ]
        refine wpAnyH_take (i := 5) (v := ?_) rfl (by kernel_rfl) (by kernel_rfl) (by kernel_rfl) (fun _ _ _ h => h) (Or.inl ⟨by rfl, ?_⟩) (by assumption) ?_
        rotate_left
        · (intro wq hSw; (try dsimp only at hSw); go_simp; try with_reducible rfl)
        try simp only [Act.put, List.getElem_toArray, List.getElem_cons_succ, List.getElem_cons_zero, List.setIfInBounds_toArray, List.set_cons_zero, List.set_cons_succ]
        refine wpAnyH_take (i := 7) (v := ?_) rfl (by kernel_rfl) (by kernel_rfl) (by kernel_rfl) (fun _ _ _ h => h) (Or.inl ⟨by rfl, ?_⟩) (by assumption) ?_
        rotate_left
        · (intro wq hSw; (try dsimp only at hSw); go_simp; try with_reducible rfl)
        try simp only [Act.put, List.getElem_toArray, List.getElem_cons_succ, List.getElem_cons_zero, List.setIfInBounds_toArray, List.set_cons_zero, List.set_cons_succ]
        refine wpAnyH_take (i := 8) (v := ?_) rfl (by kernel_rfl) (by kernel_rfl) (by kernel_rfl) (fun _ _ _ h => h) (Or.inl ⟨by rfl, ?_⟩) (by assumption) ?_
        rotate_left
        · (intro wq hSw; (try dsimp only at hSw); go_simp; try with_reducible rfl)
        try simp only [Act.put, List.getElem_toArray, List.getElem_cons_succ, List.getElem_cons_zero, List.setIfInBounds_toArray, List.set_cons_zero, List.set_cons_succ]
        refine wpAnyH_ready (rs := [6]) (by kernel_rfl) (by simp) ?_
        refine AllReadyH.cons rfl (fun K hK => ?_) AllReadyH.nil
        go_simp
        refine (AtR.nexts hB1 hw2.out (k : Int) hnx.out).mono ?_; rintro e x2 ⟨rfl, hB2⟩
        try go_wp2_with fail
        refine hK.out _ _ ?_ (fun hHeld => ?_)
        · (try dsimp only); (first | exact hB3 | exact hB2 | exact hB1 | exact hAr.out.keep (Kept.refl [] _).drew)
        clear hK K
        try simp only [Act.put, List.getElem_toArray, List.getElem_cons_succ, List.getElem_cons_zero, List.setIfInBounds_toArray, List.set_cons_zero, List.set_cons_succ]
        refine wpAnyH_take (i := 9) (v := ?_) rfl (by kernel_rfl) (by kernel_rfl) (by kernel_rfl) (fun _ _ _ h => h) (Or.inl ⟨by rfl, ?_⟩) (by assumption) ?_
        rotate_left
        · (intro wq hSw; (try dsimp only at hSw); go_simp; try with_reducible rfl)
        try simp only [Act.put, List.getElem_toArray, List.getElem_cons_succ, List.getElem_cons_zero, List.setIfInBounds_toArray, List.set_cons_zero, List.set_cons_succ]
        refine wpAnyH_take (i := 10) (v := ?_) rfl (by kernel_rfl) (by kernel_rfl) (by kernel_rfl) (fun _ _ _ h => h) (Or.inl ⟨by rfl, ?_⟩) (by assumption) ?_
        rotate_left
        · (intro wq hSw; (try dsimp only at hSw); go_simp; try with_reducible rfl)
        try simp only [Act.put, List.getElem_toArray, List.getElem_cons_succ, List.getElem_cons_zero, List.setIfInBounds_toArray, List.set_cons_zero, List.set_cons_succ]
        refine wpAnyH_take (i := 11) (v := ?_) rfl (by kernel_rfl) (by kernel_rfl) (by kernel_rfl) (fun _ _ _ h => h) (Or.inl ⟨by rfl, ?_⟩) (by assumption) ?_
        rotate_left
        · (intro wq hSw; (try dsimp only at hSw); go_simp; try with_reducible rfl)
        try simp only [Act.put, List.getElem_toArray, List.getElem_cons_succ, List.getElem_cons_zero, List.setIfInBounds_toArray, List.set_cons_zero, List.set_cons_succ]
        refine wpAnyH_take (i := 12) (v := ?_) rfl (by kernel_rfl) (by kernel_rfl) (by kernel_rfl) (fun _ _ _ h => h) (Or.inl ⟨by rfl, ?_⟩) (by assumption) ?_
        rotate_left
        · (intro wq hSw; (try dsimp only at hSw); go_simp; try with_reducible rfl)
        try simp only [Act.put, List.getElem_toArray, List.getElem_cons_succ, List.getElem_cons_zero, List.setIfInBounds_toArray, List.set_cons_zero, List.set_cons_succ]
        refine wpAnyH_take (i := 14) (v := ?_) rfl (by kernel_rfl) (by kernel_rfl) (by kernel_rfl) (fun _ _ _ h => h) (Or.inl ⟨by rfl, ?_⟩) (by assumption) ?_
        rotate_left
        · (intro wq hSw; (try dsimp only at hSw); go_simp; try with_reducible rfl)
        try simp only [Act.put, List.getElem_toArray, List.getElem_cons_succ, List.getElem_cons_zero, List.setIfInBounds_toArray, List.set_cons_zero, List.set_cons_succ]
        refine wpAnyH_take (i := 15) (v := ?_) rfl (by kernel_rfl) (by kernel_rfl) (by kernel_rfl) (fun _ _ _ h => h) (Or.inl ⟨by rfl, ?_⟩) (by assumption) ?_
        rotate_left
        · (intro wq hSw; (try dsimp only at hSw); go_simp; try with_reducible rfl)
        try simp only [Act.put, List.getElem_toArray, List.getElem_cons_succ, List.getElem_cons_zero, List.setIfInBounds_toArray, List.set_cons_zero, List.set_cons_succ]
        refine wpAnyH_take (i := 16) (v := ?_) rfl (by kernel_rfl) (by kernel_rfl) (by kernel_rfl) (fun _ _ _ h => h) (Or.inl ⟨by rfl, ?_⟩) (by assumption) ?_
        rotate_left
        · (intro wq hSw; (try dsimp only at hSw); go_simp; try with_reducible rfl)
        try simp only [Act.put, List.getElem_toArray, List.getElem_cons_succ, List.getElem_cons_zero, List.setIfInBounds_toArray, List.set_cons_zero, List.set_cons_succ]
        refine wpAnyH_take (i := 17) (v := ?_) rfl (by kernel_rfl) (by kernel_rfl) (by kernel_rfl) (fun _ _ _ h => h) (Or.inl ⟨by rfl, ?_⟩) (by assumption) ?_
        rotate_left
        · (intro wq hSw; (try dsimp only at hSw); go_simp; try with_reducible rfl)
        try simp only [Act.put, List.getElem_toArray, List.getElem_cons_succ, List.getElem_cons_zero, List.setIfInBounds_toArray, List.set_cons_zero, List.set_cons_succ]
        refine wpAnyH_take (i := 18) (v := ?_) rfl (by kernel_rfl) (by kernel_rfl) (by kernel_rfl) (fun _ _ _ h => h) (Or.inl ⟨by rfl, ?_⟩) (by assumption) ?_
        rotate_left
        · (intro wq hSw; (try dsimp only at hSw); go_simp; try with_reducible rfl)
        try simp only [Act.put, List.getElem_toArray, List.getElem_cons_succ, List.getElem_cons_zero, List.setIfInBounds_toArray, List.set_cons_zero, List.set_cons_succ]
        refine wpAnyH_take (i := 19) (v := ?_) rfl (by kernel_rfl) (by kernel_rfl) (by kernel_rfl) (fun _ _ _ h => h) (Or.inl ⟨by rfl, ?_⟩) (by assumption) ?_
        rotate_left
        · (intro wq hSw; (try dsimp only at hSw); go_simp; try with_reducible rfl)
        try simp only [Act.put, List.getElem_toArray, List.getElem_cons_succ, List.getElem_cons_zero, List.setIfInBounds_toArray, List.set_cons_zero, List.set_cons_succ]
        refine wpAnyH_ready (rs := [13]) (by kernel_rfl) (by simp) ?_
        refine AllReadyH.cons rfl (fun K hK => ?_) AllReadyH.nil
        go_simp
        refine (AtR.pages hB2 hw2.out (p : Int) (by rw [hp.out])).mono ?_; rintro e x3 ⟨rfl, hB3⟩
        try go_wp2_with fail
        refine hK.out _ _ ?_ (fun hHeld => ?_)
        · (try dsimp only); (first | exact hB3 | exact hB2 | exact hB1 | exact hAr.out.keep (Kept.refl [] _).drew)
        clear hK K
        try simp only [Act.put, List.getElem_toArray, List.getElem_cons_succ, List.getElem_cons_zero, List.setIfInBounds_toArray, List.set_cons_zero, List.set_cons_succ]
        refine wpAnyH_take (i := 20) (v := ?_) rfl (by kernel_rfl) (by kernel_rfl) (by kernel_rfl) (fun _ _ _ h => h) (Or.inl ⟨by rfl, ?_⟩) (by assumption) ?_
        rotate_left
        · (intro wq hSw; (try dsimp only at hSw); go_simp; try with_reducible rfl)
        try simp only [Act.put, List.getElem_toArray, List.getElem_cons_succ, List.getElem_cons_zero, List.setIfInBounds_toArray, List.set_cons_zero, List.set_cons_succ]
        refine wpAnyH_take (i := 21) (v := ?_) rfl (by kernel_rfl) (by kernel_rfl) (by kernel_rfl) (fun _ _ _ h => h) (Or.inl ⟨by rfl, ?_⟩) (by assumption) ?_
        rotate_left
        · (intro wq hSw; (try dsimp only at hSw); go_simp; try with_reducible rfl)
        try simp only [Act.put, List.getElem_toArray, List.getElem_cons_succ, List.getElem_cons_zero, List.setIfInBounds_toArray, List.set_cons_zero, List.set_cons_succ]
        refine wpAnyH_done (by kernel_rfl) ?_ _
        clear hHeld
        go_wp2_with fail
        refine (hB3.range hnl.out (z : Int) (k : Int)).mono ?_
        rintro e x4 ⟨a4, n4, c4, vs, rfl, hl4, hn4, hm4, _, _, _, _, j4⟩
        rw [hrg.out] at hl4
        have hn := hl4.len
        rw [Lr_len] at hn
        have hB4 := hide (hB3.keep j4)
        rw [hrg.out]
        have c8 : IntKind.i64.wrap ((k : Int) - (z : Int)) = (n4 : Int) := by rw [IntKind.wrap_i64]; have := hzk.out; omega
        have c9 : ((n4 : Int) != (n4 : Int)) = false := by simp
        have hl4 := hide hl4
        have hn := hide hn
        clear hB1 hB2 hB3 hAr j4
        go_wp2_with fail
        go_loopg [12, 13, 107, 108, 109, 110, 111, 112, 113, 114, 115, 116, 117, 118, 119, 120, 121, 122] n4 (fun kx s12 s13 s107 s108 s109 s110 s111 s112 s113 s114 s115 s116 s117 s118 s119 s120 s121 s122 wr => ∃ i : Nat, s107 = .int .i64 i ∧ i ≤ n4 ∧ n4 - i ≤ kx ∧ Hid (AtR w wr b r) ∧ Kept [] x4 wr)
        case atStart => exact ⟨0, rfl, Nat.zero_le _, by omega, hB4, Kept.refl _ _⟩
        case round =>
          obtain ⟨i, rfl, hi, hg2, hAi, hki⟩ := hrel
          by_cases hil : i < n4
          · have hin : (i : Int) < (n4 : Int) := by omega
            have hv := hide (show i < vs.length by have := hl4.out.vlen; omega)
            have hx := hide (show i < (Lr z (min k M)).length by rw [Lr_len, hn.out]; exact hil)
            obtain ⟨g, o, rfl⟩ := hl4.out.rd.rowAddr rowLn (by have := hv.out; omega)
            have hrow := hide ((hl4.out.rd.kept hki (by simp)).row rowLn i hv.out)
            have hat := hide (hl4.out.at'.get i hv.out hx.out)
            rw [Lr_at] at hat
            have d1 : IntKind.i64.wrap ((z : Int) + (i : Int)) = ((z + i : Nat) : Int) := by rw [IntKind.wrap_i64]; have := hzk.out; have := hn.out; omega
            have d2 : Int.tmod ((z + i : Nat) : Int) 26 = (((z + i) % 26 : Nat) : Int) := rfl
            have d3 : (z + i) % 26 < 26 := Nat.mod_lt _ (by decide)
            have d8 : IntKind.i64.wrap ((i : Int) + 1) = (i : Int) + 1 := by rw [IntKind.wrap_i64]; have := hn.out; omega
            generalize vs[i]'hv.out = v at *
            generalize z + i = u at *
            generalize u % 26 = q at *
            have d4 : IntKind.i64.wrap (97 + (q : Int)) = 97 + (q : Int) := by rw [IntKind.wrap_i64]; omega
            have d5 : IntKind.i32.wrap (97 + (q : Int)) = 97 + (q : Int) := by rw [IntKind.wrap_i32]; omega
            have d6 : IntKind.i64.wrap (q : Int) = (q : Int) := by rw [IntKind.wrap_i64]; omega
            have hSm : Hid (∀ w1 a7 n7 d7, Kept [] x4 w1 → Rd w1 a7 n7 16 (cellsV [runeC (97 + (q : Int))]) → Calls Tryd.prog 16 #[.agg #[.slice v.a v.n v.c, .bool v.s], .agg #[.slice a7 n7 d7, .bool false]] w1 fun e w' => e = .returned (.bool true) ∧ Kept [] w1 w') := hide (fun w1 a7 n7 d7 hk hr2 => by
              have h := rSame6_any v.a v.n v.c v.s [runeC (97 + (q : Int))] a7 n7 d7 false [runeC (97 + (q : Int))] w1 (hat.out.rd.kept hk (by simp)) hr2 (by rw [← hat.out.rd.clen]; simp)
              rw [show decide (v.s = false ∧ [runeC (97 + (q : Int))] = [runeC (97 + (q : Int))]) = true by rw [hat.out.s]; simp] at h
              exact h)
            clear hat
            go_upto_region 19 with fail
            go_upto_region 20 with (first | refine wpList_load_mid rfl 31 _ rfl g (o + i * 2) rfl (lnV v) _ hrow.out Tryd.underlying31 rfl (by kernel_rfl) ?_ | refine wpList_store_lin rfl rfl rfl wr.heap.size rfl (LinIn.new wr none 0 0 false) v.a v.n v.c v.s rfl ?_; intro x5 hb5 hj5)
            have hk5 : Kept [] wr x5 := ((Kept.refl [] wr).alloc (.cells #[.slice none 0 0, .bool false] 31)).trans hj5 (by simp)
            have hb5 := hide hb5
            clear hj5 hrow
            refine wp_region_held_drew (S := (fun w1 => LinIn w1 wr.heap.size v.a v.n v.c v.s)) (by kernel_rfl) ?_ (fun hHeld => ?_)
            · (try dsimp only); (first | exact hb5.out.kept k7 (by simp) | exact hb5.out.kept k6 (by simp) | exact hb5.out.kept (Kept.refl [] x5).drew (by simp))
            refine wpAnyH_take (i := 0) (v := (.agg #[.slice v.a v.n v.c, .bool v.s])) rfl (by kernel_rfl) (by kernel_rfl) (by kernel_rfl) (fun _ _ _ h => h) (yieldsIf_load_mid (by rfl) 31 _ rfl wr.heap.size 0 rfl (linL v.a v.n v.c v.s) _ (fun _ h => h.range) Tryd.underlying31 rfl (by kernel_rfl)) (by assumption) ?_
            try simp only [Act.put, List.getElem_toArray, List.getElem_cons_zero, List.setIfInBounds_toArray, List.set_cons_zero, List.set_cons_succ]
            refine wpAnyH_take (i := 1) (v := ?_) rfl (by kernel_rfl) (by kernel_rfl) (by kernel_rfl) (fun _ _ _ h => h) (Or.inl ⟨by rfl, ?_⟩) (by assumption) ?_
            rotate_left
            · (intro wq hSw; (try dsimp only at hSw); go_simp; try with_reducible rfl)
            try simp only [Act.put, List.getElem_toArray, List.getElem_cons_succ, List.getElem_cons_zero, List.setIfInBounds_toArray, List.set_cons_zero, List.set_cons_succ]
            refine wpAnyH_take (i := 2) (v := ?_) rfl (by kernel_rfl) (by kernel_rfl) (by kernel_rfl) (fun _ _ _ h => h) (Or.inl ⟨by rfl, ?_⟩) (by assumption) ?_
            rotate_left
            · (intro wq hSw; (try dsimp only at hSw); go_simp; try with_reducible rfl)
            try simp only [Act.put, List.getElem_toArray, List.getElem_cons_succ, List.getElem_cons_zero, List.setIfInBounds_toArray, List.set_cons_zero, List.set_cons_succ]
            refine wpAnyH_take (i := 3) (v := ?_) rfl (by kernel_rfl) (by kernel_rfl) (by kernel_rfl) (fun _ _ _ h => h) (Or.inl ⟨by rfl, ?_⟩) (by assumption) ?_
            rotate_left
            · (intro wq hSw; (try dsimp only at hSw); go_simp; try with_reducible rfl)
            try simp only [Act.put, List.getElem_toArray, List.getElem_cons_succ, List.getElem_cons_zero, List.setIfInBounds_toArray, List.set_cons_zero, List.set_cons_succ]
            refine wpAnyH_take (i := 4) (v := ?_) rfl (by kernel_rfl) (by kernel_rfl) (by kernel_rfl) (fun _ _ _ h => h) (Or.inl ⟨by rfl, ?_⟩) (by assumption) ?_
            rotate_left
            · (intro wq hSw; (try dsimp only at hSw); go_simp; try with_reducible rfl)
            try simp only [Act.put, List.getElem_toArray, List.getElem_cons_succ, List.getElem_cons_zero, List.setIfInBounds_toArray, List.set_cons_zero, List.set_cons_succ]
            refine wpAnyH_take (i := 5) (v := ?_) rfl (by kernel_rfl) (by kernel_rfl) (by kernel_rfl) (fun _ _ _ h => h) (Or.inl ⟨by rfl, ?_⟩) (by assumption) ?_
            rotate_left
            · (intro wq hSw; (try dsimp only at hSw); go_simp; try with_reducible rfl)
            try simp only [Act.put, List.getElem_toArray, List.getElem_cons_succ, List.getElem_cons_zero, List.setIfInBounds_toArray, List.set_cons_zero, List.set_cons_succ]
            refine wpAnyH_take (i := 6) (v := ?_) rfl (by kernel_rfl) (by kernel_rfl) (by kernel_rfl) (fun _ _ _ h => h) (Or.inl ⟨by rfl, ?_⟩) (by assumption) ?_
            rotate_left
            · (intro wq hSw; (try dsimp only at hSw); go_simp; try with_reducible rfl)
            try simp only [Act.put, List.getElem_toArray, List.getElem_cons_succ, List.getElem_cons_zero, List.setIfInBounds_toArray, List.set_cons_zero, List.set_cons_succ]
            refine wpAnyH_ready (rs := [7]) (by kernel_rfl) (by simp) ?_
            refine AllReadyH.cons rfl (fun K hK => ?_) AllReadyH.nil
            go_simp
            refine (text8_any (97 + (q : Int)) _).mono ?_; rintro e x6 ⟨a7, n7, d7, rfl, ho7, h7a, h7b, j7⟩; have k6 : Kept [] x5 x6 := (Kept.refl [] x5).drew.trans j7 (by simp)
            try go_wp2_with fail
            refine hK.out _ _ ?_ (fun hHeld => ?_)
            · (try dsimp only); (first | exact hb5.out.kept k7 (by simp) | exact hb5.out.kept k6 (by simp) | exact hb5.out.kept (Kept.refl [] x5).drew (by simp))
            clear hK K
            try simp only [Act.put, List.getElem_toArray, List.getElem_cons_succ, List.getElem_cons_zero, List.setIfInBounds_toArray, List.set_cons_zero, List.set_cons_succ]
            refine wpAnyH_ready (rs := [8]) (by kernel_rfl) (by simp) ?_
            refine AllReadyH.cons rfl (fun K hK => ?_) AllReadyH.nil
            go_simp
            refine (hSm.out x6 a7 n7 d7 (hki.trans (hk5.trans k6 (by simp)) (by simp)) ho7.rd).mono ?_; rintro e x7 ⟨rfl, j8⟩; have k7 : Kept [] x5 x7 := k6.trans j8 (by simp)
            try go_wp2_with fail
            refine hK.out _ _ ?_ (fun hHeld => ?_)
            · (try dsimp only); (first | exact hb5.out.kept k7 (by simp) | exact hb5.out.kept k6 (by simp) | exact hb5.out.kept (Kept.refl [] x5).drew (by simp))
            clear hK K
            try simp only [Act.put, List.getElem_toArray, List.getElem_cons_succ, List.getElem_cons_zero, List.setIfInBounds_toArray, List.set_cons_zero, List.set_cons_succ]
            refine wpAnyH_take (i := 9) (v := ?_) rfl (by kernel_rfl) (by kernel_rfl) (by kernel_rfl) (fun _ _ _ h => h) (Or.inl ⟨by rfl, ?_⟩) (by assumption) ?_
            rotate_left
            · (intro wq hSw; (try dsimp only at hSw); go_simp; try with_reducible rfl)
            try simp only [Act.put, List.getElem_toArray, List.getElem_cons_succ, List.getElem_cons_zero, List.setIfInBounds_toArray, List.set_cons_zero, List.set_cons_succ]
            refine wpAnyH_done (by kernel_rfl) ?_ _
            go_wp2_with fail
            go_roundg (n4 - (i + 1))
            case measure => omega
            case rel => exact ⟨i + 1, by push_cast; rfl, by omega, Nat.le_refl _, hide (hAi.out.keep (hk5.trans k7 (by simp))), hki.trans (hk5.trans k7 (by simp)) (by simp)⟩
          · obtain rfl : i = n4 := by omega
            by_cases hz0 : z = 0
            · have e0 : ((z : Int) == 0) = true := by simp [hz0]
              go_wp2_with fail
              refine (hkn0.out wr hAi.out.kp).mono ?_
              rintro e x5 ⟨rfl, j5⟩
              go_wp2_with fail
              go_ret
              exact ⟨rfl, hAi.out.kp.trans j5 (by simp)⟩
            · have e0 : ((z : Int) == 0) = false := by simp [hz0]
              have c10 : IntKind.i64.wrap ((z : Int) - 1) = (z : Int) - 1 := by rw [IntKind.wrap_i64]; have := hzk.out; omega
              go_wp2_with fail
              refine (hAi.out.gets hw2.out ((z : Int) - 1) none 0 0 false [] 14 true (Rd.nil _ _ _) hnl.out (by rw [hgn.out (by omega)]; simp [noLn])).mono ?_
              rintro e x5 ⟨rfl, hA5⟩
              go_wp2_with fail
              refine (hkn0.out x5 hA5.kp).mono ?_
              rintro e x6 ⟨rfl, j6⟩
              go_wp2_with fail
              go_ret
              exact ⟨rfl, hA5.kp.trans j6 (by simp)⟩
end Go.Proofs.YtnkddhmhjnhgcaaDoor
