/- The law RingHolds. -/
import Derived.Test.YtnkddhmhjnhgcaaDoorRnHold
import Derived.Deep.CutBlock
namespace Go.Proofs.YtnkddhmhjnhgcaaDoor
open Go.RowKit
set_option linter.unusedVariables false
set_option linter.unusedSimpArgs false
set_option maxRecDepth 100000

theorem rune_ok8 (i : Nat) (h : i < 80) : validL [runeC (1024 + ((i : Nat) : Int))] = true := by
  have h' : ∀ q, q < 80 → validL [runeC (1024 + ((q : Nat) : Int))] = true := by decide +kernel
  exact h' i h
/-- What a round's start and its end know. -/
structure HJ (w0 w : World) (b mb : Nat) (r : Rg) (M : Int → LnA) (n lim P i : Nat) : Prop where
  h : HI w0 w b mb r M
  m : MapL w mb n M
  l : r.limit = lim
  p : r.places = P
  x : r.next ≤ i
  n : n ≤ i
  k : lim ≤ 20
theorem HJ.keep {w0 w w' : World} {b mb : Nat} {r : Rg} {M : Int → LnA} {n lim P i : Nat} (h : HJ w0 w b mb r M n lim P i) (hk : Kept [] w w') : HJ w0 w' b mb r M n lim P i :=
  ⟨h.h.keep hk, h.m.kept hk (by simp), h.l, h.p, h.x, h.n, h.k⟩
theorem HJ.mono {w0 w : World} {b mb : Nat} {r : Rg} {M : Int → LnA} {n lim P i j : Nat} (h : HJ w0 w b mb r M n lim P i) (hk : i ≤ j) : HJ w0 w b mb r M n lim P j :=
  ⟨h.h, h.m, h.l, h.p, Nat.le_trans h.x hk, Nat.le_trans h.n hk, h.k⟩
set_option maxHeartbeats 80000000 in
theorem ringHolds_any (k1 k2 : Int) (h1 : 0 ≤ k1 ∧ k1 ≤ 255) (h2 : 0 ≤ k2 ∧ k2 ≤ 255) (a1 : Option Addr) (N cN : Nat) (zs : List Int) (w : World) (hr : Rd w a1 N 1 (ints .u8 zs)) (hz : ∀ x ∈ zs, 0 ≤ x ∧ x ≤ 255) (ht : Tabs w) :
    Calls Tryd.prog 4 #[.int .u8 k1, .int .u8 k2, .slice a1 N cN] w fun e w' => e = .returned (.bool true) ∧ Kept [] w w' := by
  have hkn0 := hide (fun w1 (hk : Kept [] w w1) => Known8.at known8_any (ht.kept hk))
  have hw2 := hide (tabs_lt8 ht)
  have ht0 := hide ht
  have hr0 := hide hr
  have hz0 := hide hz
  clear ht hr hz
  by_cases hout : k1 > 20 ∨ k2 < 1 ∨ k2 > 6 ∨ (N : Int) > 80
  · by_cases q1 : k1 > 20 <;> by_cases q2 : k2 < 1 <;> by_cases q3 : k2 > 6 <;> by_cases q4 : (N : Int) > 80 <;> first
      | (exfalso; omega)
      | (clear hout
         go_enter Tryd.func4, Tryd.ntmps4
         go_wp2_with fail
         refine (hkn0.out w (Kept.refl [] w)).mono ?_
         rintro e w1 ⟨rfl, hk1⟩
         go_wp2_with fail
         go_ret
         exact ⟨rfl, hk1⟩)
  · have q1 : ¬ k1 > 20 := by omega
    have q2 : ¬ k2 < 1 := by omega
    have q3 : ¬ k2 > 6 := by omega
    have q4 : ¬ (N : Int) > 80 := by omega
    clear hout
    obtain ⟨m, rfl⟩ : ∃ P : Nat, k1 = P := ⟨k1.toNat, by omega⟩
    obtain ⟨P, rfl⟩ : ∃ P : Nat, k2 = P := ⟨k2.toNat, by omega⟩
    have hP6 := hide (show 1 ≤ P ∧ P ≤ 6 by omega)
    have hN80 := hide (show N ≤ 80 by omega)
    have c1 : IntKind.i64.wrap (m : Int) = (m : Int) := by rw [IntKind.wrap_i64]; omega
    have c2 : IntKind.i64.wrap (P : Int) = (P : Int) := by rw [IntKind.wrap_i64]; omega
    have hpp : ∀ (b : Nat) w1, (binOp .eql 24 (.pointer (some ⟨b, 0, none⟩)) (.pointer none)).run Tryd.prog w1 = .ok (.bool false) w1 := fun b w1 => by kernel_rfl
    go_enter Tryd.func4, Tryd.ntmps4
    go_wp2_with fail
    refine (New8_any (m : Int) (P : Int) w).mono ?_
    rintro e w1 ⟨hk1, hyes, _⟩
    obtain ⟨b, B, rfl, hpg, hB⟩ := hyes (by omega)
    have hJ0 : Hid (∃ r, HJ w (w1.alloc (.map #[] 0)) b w1.heap.size r (fun _ => zLn) 0 m P 0) := hide (by
      have hka : Kept [] w1 (w1.alloc (.map #[] 0)) := (Kept.refl [] w1).alloc _
      refine ⟨_, ⟨ht0.out.kept (hk1.trans hka (by simp)), hk1.trans hka (by simp), hk1.size, by simp, B, hpg.kept hka (by simp), hB, fun hm => ?_, fun j hj => ?_⟩, MapL.made w1, by simp, by simp, by simp [Rg.next], Nat.le_refl _, by omega⟩
      · exact Nat.lt_irrefl _ (hpg.lt _ hm)
      · simp at hj)
    have hpb := hpp b
    have hm20 := hide (show m ≤ 20 by omega)
    clear hyes hpg hB hpp hk1 h1 h2 q1 q2 q3 q4
    obtain ⟨mb, hmb⟩ : ∃ mb, w1.heap.size = mb := ⟨_, rfl⟩
    obtain ⟨x1, hx1⟩ : ∃ x1, w1.alloc (.map #[] 0) = x1 := ⟨_, rfl⟩
    rw [hx1, hmb] at hJ0
    have hmm : (Instr.makeMap 41 none).run Tryd.prog w1 = .ok (.map (some mb)) x1 := by rw [← hx1, ← hmb]; rfl
    clear hmb hx1
    go_wp2_with fail
    clear hmm
    go_loopg [10, 11, 12, 13, 14, 15, 16, 17, 18, 54, 55, 56, 57, 58, 59, 60, 61, 62, 63, 64, 65, 66, 67, 68, 69, 70, 71, 72, 73, 74, 75, 76, 77, 78, 79, 80, 81, 82, 83, 84, 85, 86, 87, 88, 89, 90, 91, 92, 93, 94, 95, 96, 97, 98, 99, 100, 101, 102, 103, 104, 105, 106, 107, 108, 109, 110, 111, 112, 113, 114, 115, 116, 117, 118, 119, 120, 121, 122, 123, 124, 125, 126, 127, 128, 129, 130, 131, 132, 133, 134, 135, 136, 137, 138, 139, 140, 141, 142, 143, 144, 145, 146, 147, 148, 149, 150, 151, 152, 153, 154, 155, 156, 157, 158, 159, 160, 161, 162, 163, 164, 165, 166, 167, 168, 169, 170, 171, 172, 173] N (fun kx s10 s11 s12 s13 s14 s15 s16 s17 s18 s54 s55 s56 s57 s58 s59 s60 s61 s62 s63 s64 s65 s66 s67 s68 s69 s70 s71 s72 s73 s74 s75 s76 s77 s78 s79 s80 s81 s82 s83 s84 s85 s86 s87 s88 s89 s90 s91 s92 s93 s94 s95 s96 s97 s98 s99 s100 s101 s102 s103 s104 s105 s106 s107 s108 s109 s110 s111 s112 s113 s114 s115 s116 s117 s118 s119 s120 s121 s122 s123 s124 s125 s126 s127 s128 s129 s130 s131 s132 s133 s134 s135 s136 s137 s138 s139 s140 s141 s142 s143 s144 s145 s146 s147 s148 s149 s150 s151 s152 s153 s154 s155 s156 s157 s158 s159 s160 s161 s162 s163 s164 s165 s166 s167 s168 s169 s170 s171 s172 s173 wr => ∃ (i lim n : Nat) (r : Rg) (M : Int → LnA), s54 = .int .i64 i ∧ s10 = .int .i64 lim ∧ i ≤ N ∧ N - i ≤ kx ∧ Hid (HJ w wr b mb r M n lim P i))
    case atStart => obtain ⟨r, hr⟩ := hJ0.out; exact ⟨0, m, 0, r, _, rfl, rfl, Nat.zero_le _, by omega, hide hr⟩
    case round =>
      obtain ⟨i, lim, n, r, M, rfl, rfl, hi, hg, hJ⟩ := hrel
      by_cases hlt : i < N
      · have hzl : zs.length = N := by have := hr0.out.1; rw [ints_len] at this; omega
        have hil : i < zs.length := by omega
        obtain ⟨gb, ob, rfl⟩ : ∃ g o, a1 = some ⟨g, o, none⟩ := by
          rcases hr0.out.2 with h0 | ⟨g, o, h0, _⟩
          · exact absurd (congrArg List.length h0) (by rw [ints_len, hzl]; simp; omega)
          · exact ⟨g, o, h0⟩
        have hb : wr.cell? ⟨gb, ob + i, none⟩ = some (.int .u8 zs[i]) := by
          rcases (hr0.out.kept hJ.out.h.kp (by simp)).2 with h0 | ⟨g, o, h0, hc⟩
          · exact absurd (congrArg List.length h0) (by rw [ints_len, hzl]; simp; omega)
          · injection h0 with h0
            injection h0 with e1 e2 _
            subst e1 e2
            exact Rd.at hc i hil
        have hzx := hz0.out _ (List.getElem_mem hil)
        generalize zs[i] = xz at *
        obtain ⟨X, rfl⟩ : ∃ X : Nat, xz = X := ⟨xz.toNat, by omega⟩
        have hiN : (i : Int) < (N : Int) := by omega
        have t4 : IntKind.i64.wrap ((i : Int) + 1) = (i : Int) + 1 := by rw [IntKind.wrap_i64]; have := hN80.out; omega
        replace hzl := hide hzl
        have hi80 := hide (show i < 80 by have := hN80.out; omega)
        have hX255 := hide (show X ≤ 255 by omega)
        obtain ⟨q, hm⟩ : ∃ q : Nat, X % 8 = q := ⟨_, rfl⟩
        obtain ⟨Y, hY⟩ : ∃ Y : Nat, X / 8 = Y := ⟨_, rfl⟩
        have e1 : Int.tmod (X : Int) 8 = (q : Int) := by rw [← hm]; rfl
        have e2 : Int.tdiv (X : Int) 8 = (Y : Int) := by rw [← hY]; rfl
        have e3 : IntKind.u8.wrap (q : Int) = (q : Int) := by simp only [IntKind.wrap_u8]; omega
        have e4 : IntKind.u8.wrap (Y : Int) = (Y : Int) := by simp only [IntKind.wrap_u8]; omega
        have e5 : IntKind.i64.wrap (Y : Int) = (Y : Int) := by rw [IntKind.wrap_i64]; omega
        have hqY := hide (show q < 8 ∧ Y < 32 by omega)
        clear hm hY hzx
        replace hJ := hide hJ.out
        go_upto_block 2 with fail
        go_cut [10, 13, 14, 15, 16, 17, 54] from 54 to 173 (fun s10 s13 s14 s15 s16 s17 s54 wc => ∃ (lim' n' : Nat) (r' : Rg) (M' : Int → LnA), s54 = .int .i64 i ∧ s10 = .int .i64 lim' ∧ Hid (HJ w wc b mb r' M' n' lim' P (i + 1)))
        case first => as_aux_lemma =>
          have hnx := hide (show r.next ≤ 1000000000 by have := hJ.out.x; have := hi80.out; omega)
          by_cases hq5 : q = 5
          · subst hq5
            by_cases hls : r.ls = []
            · replace hls := hide hls
              go_wp2_with fail
              refine (hJ.out.h.popNone hw2.out hnx.out hls.out).mono ?_
              rintro e x2 ⟨a4, n4, c4, rfl, hT, hMk⟩
              go_upto_region 18 with (refine wpList_store_lin rfl rfl rfl x2.heap.size rfl (LinIn.new x2 none 0 0 false) a4 n4 c4 false rfl ?_; intro x3 hb3 hj3)
              have hj23 : Kept [] x2 x3 := ((Kept.refl [] x2).alloc (.cells #[.slice none 0 0, .bool false] 31)).trans hj3 (by simp)
              have hE := hide ((⟨hT, hMk _ _ hJ.out.m, hJ.out.l, hJ.out.p, hJ.out.x, hJ.out.n, hJ.out.k⟩ : HJ w x2 b mb r M n lim P i).keep hj23)
              clear hT hMk hb3 hj3 hj23
              refine wp_region_held_drew (S := (fun w1 => True)) (by kernel_rfl) ?_ (fun hHeld => ?_)
              · (try dsimp only); (try trivial)
              refine wpAnyH_take (i := 0) (v := ?_) rfl (by kernel_rfl) (by kernel_rfl) (by kernel_rfl) (fun _ _ _ h => h) (Or.inl ⟨by rfl, ?_⟩) (by assumption) ?_
              rotate_left
              · (intro wq hSw; (try dsimp only at hSw); go_simp; try with_reducible rfl)
              try simp only [Act.put, List.getElem_toArray, List.getElem_cons_zero, List.setIfInBounds_toArray, List.set_cons_zero, List.set_cons_succ]
              refine wpAnyH_take (i := 1) (v := ?_) rfl (by kernel_rfl) (by kernel_rfl) (by kernel_rfl) (fun _ _ _ h => h) (Or.inl ⟨by rfl, ?_⟩) (by assumption) ?_
              rotate_left
              · (intro wq hSw; (try dsimp only at hSw); go_simp; try with_reducible rfl)
              try simp only [Act.put, List.getElem_toArray, List.getElem_cons_succ, List.getElem_cons_zero, List.setIfInBounds_toArray, List.set_cons_zero, List.set_cons_succ]
              refine wpAnyH_take (i := 2) (v := ?_) rfl (by kernel_rfl) (by kernel_rfl) (by kernel_rfl) (fun _ _ _ h => h) (Or.inl ⟨by rfl, ?_⟩) (by assumption) ?_
              rotate_left
              · (intro wq hSw; (try dsimp only at hSw); go_simp; try with_reducible rfl)
              try simp only [Act.put, List.getElem_toArray, List.getElem_cons_succ, List.getElem_cons_zero, List.setIfInBounds_toArray, List.set_cons_zero, List.set_cons_succ]
              refine wpAnyH_take (i := 3) (v := undef) rfl (by kernel_rfl) (by kernel_rfl) (by kernel_rfl) (fun _ _ _ h => h) (Or.inr ⟨by rfl, rfl⟩) (by assumption) ?_
              try simp only [Act.put, List.getElem_toArray, List.getElem_cons_succ, List.getElem_cons_zero, List.setIfInBounds_toArray, List.set_cons_zero, List.set_cons_succ]
              refine wpAnyH_take (i := 4) (v := undef) rfl (by kernel_rfl) (by kernel_rfl) (by kernel_rfl) (fun _ _ _ h => h) (Or.inr ⟨by rfl, rfl⟩) (by assumption) ?_
              try simp only [Act.put, List.getElem_toArray, List.getElem_cons_succ, List.getElem_cons_zero, List.setIfInBounds_toArray, List.set_cons_zero, List.set_cons_succ]
              refine wpAnyH_take (i := 5) (v := undef) rfl (by kernel_rfl) (by kernel_rfl) (by kernel_rfl) (fun _ _ _ h => h) (Or.inr ⟨by rfl, rfl⟩) (by assumption) ?_
              try simp only [Act.put, List.getElem_toArray, List.getElem_cons_succ, List.getElem_cons_zero, List.setIfInBounds_toArray, List.set_cons_zero, List.set_cons_succ]
              refine wpAnyH_take (i := 6) (v := undef) rfl (by kernel_rfl) (by kernel_rfl) (by kernel_rfl) (fun _ _ _ h => h) (Or.inr ⟨by rfl, rfl⟩) (by assumption) ?_
              try simp only [Act.put, List.getElem_toArray, List.getElem_cons_succ, List.getElem_cons_zero, List.setIfInBounds_toArray, List.set_cons_zero, List.set_cons_succ]
              refine wpAnyH_take (i := 7) (v := undef) rfl (by kernel_rfl) (by kernel_rfl) (by kernel_rfl) (fun _ _ _ h => h) (Or.inr ⟨by rfl, rfl⟩) (by assumption) ?_
              try simp only [Act.put, List.getElem_toArray, List.getElem_cons_succ, List.getElem_cons_zero, List.setIfInBounds_toArray, List.set_cons_zero, List.set_cons_succ]
              refine wpAnyH_take (i := 8) (v := undef) rfl (by kernel_rfl) (by kernel_rfl) (by kernel_rfl) (fun _ _ _ h => h) (Or.inr ⟨by rfl, rfl⟩) (by assumption) ?_
              try simp only [Act.put, List.getElem_toArray, List.getElem_cons_succ, List.getElem_cons_zero, List.setIfInBounds_toArray, List.set_cons_zero, List.set_cons_succ]
              refine wpAnyH_take (i := 9) (v := undef) rfl (by kernel_rfl) (by kernel_rfl) (by kernel_rfl) (fun _ _ _ h => h) (Or.inr ⟨by rfl, rfl⟩) (by assumption) ?_
              try simp only [Act.put, List.getElem_toArray, List.getElem_cons_succ, List.getElem_cons_zero, List.setIfInBounds_toArray, List.set_cons_zero, List.set_cons_succ]
              refine wpAnyH_take (i := 10) (v := ?_) rfl (by kernel_rfl) (by kernel_rfl) (by kernel_rfl) (fun _ _ _ h => h) (Or.inl ⟨by rfl, ?_⟩) (by assumption) ?_
              rotate_left
              · (intro wq hSw; (try dsimp only at hSw); go_simp; try with_reducible rfl)
              try simp only [Act.put, List.getElem_toArray, List.getElem_cons_succ, List.getElem_cons_zero, List.setIfInBounds_toArray, List.set_cons_zero, List.set_cons_succ]
              refine wpAnyH_done (by kernel_rfl) ?_ _
              go_wp2_with fail
              go_meet
              case rel => exact ⟨lim, n, r, M, rfl, rfl, hide ((hE.out.keep (Kept.refl [] x3).drew).mono (by omega))⟩
            · replace hls := hide hls
              go_wp2_with fail
              refine (hJ.out.h.pop hw2.out hnx.out hls.out).mono ?_
              rintro e x2 ⟨a4, n4, c4, s4, rfl, hT, hMk, g1, g2, g3, y, g4, g5, g6⟩
              go_upto_region 18 with (refine wpList_store_lin rfl rfl rfl x2.heap.size rfl (LinIn.new x2 none 0 0 false) a4 n4 c4 s4 rfl ?_; intro x3 hb3 hj3)
              have hj23 : Kept [] x2 x3 := ((Kept.refl [] x2).alloc (.cells #[.slice none 0 0, .bool false] 31)).trans hj3 (by simp)
              have hE := hide ((⟨hT, hMk _ _ hJ.out.m, by rw [g1]; exact hJ.out.l, by rw [g2]; exact hJ.out.p, by have := hJ.out.x; omega, hJ.out.n, hJ.out.k⟩ : HJ w x2 b mb (popG r).1 M n lim P i).keep hj23)
              replace g4 := g4.kept hj23 (by simp)
              replace g5 := g5.kept hj23 (by simp)
              have hb3 := hide hb3
              clear hT hMk hj3 hj23 g1 g2 g3
              obtain ⟨z, hz⟩ : ∃ z : Nat, (popG r).1.next = z := ⟨_, rfl⟩
              have hz1 := hide (show ((((popG r).1.next : Nat) : Int) = (z : Int)) by rw [hz])
              have hzw := hide (wf64 (k := (z : Int)) (by have := hE.out.x; have := hi80.out; omega))
              rw [hz] at g5
              obtain ⟨u, hu⟩ : ∃ u, M (z : Int) = u := ⟨_, rfl⟩
              rw [hu] at g5
              have hSm := hide (fun w1 (hk : Kept [] x3 w1) => rSame6_any a4 n4 c4 s4 y.l u.a u.n u.c u.s y.l w1 (g4.rd.kept hk (by simp)) (g5.rd.kept hk (by simp)) (by have h1 := g4.len; simp only at h1; omega))
              rw [show decide (s4 = u.s ∧ y.l = y.l) = true by have h1 := g4.s; have h2 := g5.s; simp only at h1; simp [h1, h2]] at hSm
              have hF : ∀ {w1 : World}, Kept [] x3 w1 → LinIn w1 x2.heap.size a4 n4 c4 s4 ∧ (Instr.lookup 41 (.map (some mb)) (.int .i64 (z : Int)) false).run Tryd.prog w1 = .ok (lvV u) w1 := fun hk => ⟨hb3.out.kept hk (by simp), by rw [← hu]; exact (hE.out.keep hk).m.look _ hzw.out⟩
              clear g4 g5
              replace hu := hide hu
              replace hz := hide hz
              refine wp_region_held_drew (S := (fun w1 => LinIn w1 x2.heap.size a4 n4 c4 s4 ∧ (Instr.lookup 41 (.map (some mb)) (.int .i64 (z : Int)) false).run Tryd.prog w1 = .ok (lvV u) w1)) (by kernel_rfl) ?_ (fun hHeld => ?_)
              · (try dsimp only); (first | exact hF k5 | exact hF k4 | exact hF (Kept.refl [] x3).drew)
              refine wpAnyH_take (i := 0) (v := ?_) rfl (by kernel_rfl) (by kernel_rfl) (by kernel_rfl) (fun _ _ _ h => h) (Or.inl ⟨by rfl, ?_⟩) (by assumption) ?_
              rotate_left
              · (intro wq hSw; (try dsimp only at hSw); go_simp; try with_reducible rfl)
              try simp only [Act.put, List.getElem_toArray, List.getElem_cons_zero, List.setIfInBounds_toArray, List.set_cons_zero, List.set_cons_succ]
              refine wpAnyH_take (i := 1) (v := ?_) rfl (by kernel_rfl) (by kernel_rfl) (by kernel_rfl) (fun _ _ _ h => h) (Or.inl ⟨by rfl, ?_⟩) (by assumption) ?_
              rotate_left
              · (intro wq hSw; (try dsimp only at hSw); go_simp; try with_reducible rfl)
              try simp only [Act.put, List.getElem_toArray, List.getElem_cons_succ, List.getElem_cons_zero, List.setIfInBounds_toArray, List.set_cons_zero, List.set_cons_succ]
              refine wpAnyH_take (i := 2) (v := ?_) rfl (by kernel_rfl) (by kernel_rfl) (by kernel_rfl) (fun _ _ _ h => h) (Or.inl ⟨by rfl, ?_⟩) (by assumption) ?_
              rotate_left
              · (intro wq hSw; (try dsimp only at hSw); go_simp; try with_reducible rfl)
              try simp only [Act.put, List.getElem_toArray, List.getElem_cons_succ, List.getElem_cons_zero, List.setIfInBounds_toArray, List.set_cons_zero, List.set_cons_succ]
              refine wpAnyH_take (i := 3) (v := (.agg #[.slice a4 n4 c4, .bool s4])) rfl (by kernel_rfl) (by kernel_rfl) (by kernel_rfl) (fun _ _ _ h => h) (yieldsIf_load_mid (by rfl) 31 _ rfl x2.heap.size 0 rfl (linL a4 n4 c4 s4) _ (fun _ h => h.1.range) Tryd.underlying31 rfl (by kernel_rfl)) (by assumption) ?_
              try simp only [Act.put, List.getElem_toArray, List.getElem_cons_succ, List.getElem_cons_zero, List.setIfInBounds_toArray, List.set_cons_zero, List.set_cons_succ]
              refine wpAnyH_take (i := 4) (v := ?_) rfl (by kernel_rfl) (by kernel_rfl) (by kernel_rfl) (fun _ _ _ h => h) (Or.inl ⟨by rfl, ?_⟩) (by assumption) ?_
              rotate_left
              · (intro wq hSw; (try dsimp only at hSw); go_simp; try with_reducible rfl)
              try simp only [Act.put, List.getElem_toArray, List.getElem_cons_succ, List.getElem_cons_zero, List.setIfInBounds_toArray, List.set_cons_zero, List.set_cons_succ]
              refine wpAnyH_take (i := 5) (v := ?_) rfl (by kernel_rfl) (by kernel_rfl) (by kernel_rfl) (fun _ _ _ h => h) (Or.inl ⟨by rfl, ?_⟩) (by assumption) ?_
              rotate_left
              · (intro wq hSw; (try dsimp only at hSw); go_simp; try with_reducible rfl)
              try simp only [Act.put, List.getElem_toArray, List.getElem_cons_succ, List.getElem_cons_zero, List.setIfInBounds_toArray, List.set_cons_zero, List.set_cons_succ]
              refine wpAnyH_ready (rs := [6]) (by kernel_rfl) (by simp) ?_
              refine AllReadyH.cons rfl (fun K hK => ?_) AllReadyH.nil
              go_simp
              refine ((hE.out.keep (Kept.refl [] x3).drew).h.next (z : Int) hz1.out).mono ?_; rintro e x4 ⟨rfl, hj4⟩; have k4 : Kept [] x3 x4 := (Kept.refl [] x3).drew.trans hj4 (by simp)
              try go_wp2_with fail
              refine hK.out _ _ ?_ (fun hHeld => ?_)
              · (try dsimp only); (first | exact hF k5 | exact hF k4 | exact hF (Kept.refl [] x3).drew)
              clear hK K
              try simp only [Act.put, List.getElem_toArray, List.getElem_cons_succ, List.getElem_cons_zero, List.setIfInBounds_toArray, List.set_cons_zero, List.set_cons_succ]
              refine wpAnyH_take (i := 7) (v := ?_) rfl (by kernel_rfl) (by kernel_rfl) (by kernel_rfl) (fun _ _ _ h => h) (Or.inl ⟨by rfl, ?_⟩) (by assumption) ?_
              rotate_left
              · (intro wq hSw; (try dsimp only at hSw); go_simp; try with_reducible rfl)
              try simp only [Act.put, List.getElem_toArray, List.getElem_cons_succ, List.getElem_cons_zero, List.setIfInBounds_toArray, List.set_cons_zero, List.set_cons_succ]
              refine wpAnyH_ready (rs := [8]) (by kernel_rfl) (by simp) ?_
              refine AllReadyH.cons rfl (fun K hK => ?_) AllReadyH.nil
              go_simp
              refine (hSm.out _ k4).mono ?_; rintro e x5 ⟨rfl, hj5⟩; have k5 : Kept [] x3 x5 := k4.trans hj5 (by simp)
              try go_wp2_with fail
              refine hK.out _ _ ?_ (fun hHeld => ?_)
              · (try dsimp only); (first | exact hF k5 | exact hF k4 | exact hF (Kept.refl [] x3).drew)
              clear hK K
              try simp only [Act.put, List.getElem_toArray, List.getElem_cons_succ, List.getElem_cons_zero, List.setIfInBounds_toArray, List.set_cons_zero, List.set_cons_succ]
              refine wpAnyH_take (i := 9) (v := ?_) rfl (by kernel_rfl) (by kernel_rfl) (by kernel_rfl) (fun _ _ _ h => h) (Or.inl ⟨by rfl, ?_⟩) (by assumption) ?_
              rotate_left
              · (intro wq hSw; (try dsimp only at hSw); go_simp; try with_reducible rfl)
              try simp only [Act.put, List.getElem_toArray, List.getElem_cons_succ, List.getElem_cons_zero, List.setIfInBounds_toArray, List.set_cons_zero, List.set_cons_succ]
              refine wpAnyH_take (i := 10) (v := ?_) rfl (by kernel_rfl) (by kernel_rfl) (by kernel_rfl) (fun _ _ _ h => h) (Or.inl ⟨by rfl, ?_⟩) (by assumption) ?_
              rotate_left
              · (intro wq hSw; (try dsimp only at hSw); go_simp; try with_reducible rfl)
              try simp only [Act.put, List.getElem_toArray, List.getElem_cons_succ, List.getElem_cons_zero, List.setIfInBounds_toArray, List.set_cons_zero, List.set_cons_succ]
              refine wpAnyH_done (by kernel_rfl) ?_ _
              go_wp2_with fail
              go_meet
              case rel => exact ⟨lim, n, _, M, rfl, rfl, hide ((hE.out.keep k5).mono (by omega))⟩
          · by_cases hq6 : q = 6
            · subst hq6
              obtain ⟨L, hL⟩ : ∃ L : Nat, Y % 21 = L := ⟨_, rfl⟩
              have e6 : Int.tmod (Y : Int) 21 = (L : Int) := by rw [← hL]; rfl
              have hL20 := hide (show L ≤ 20 by omega)
              have e7 : IntKind.i64.wrap (L : Int) = (L : Int) := by rw [IntKind.wrap_i64]; have := hL20.out; omega
              clear hL
              go_wp2_with fail
              refine (hJ.out.h.limit hw2.out L (by have := hL20.out; omega) hnx.out).mono ?_
              rintro e x2 ⟨rfl, hT, hMk⟩
              have hto := hide (limit_to r L (by have := hL20.out; omega))
              have hE := hide (show HJ w x2 b mb (limitG r (L : Int)).1 M n L P (i + 1) from by
                obtain ⟨_, mm, g1, g2, _, _, g5⟩ := hto.out
                exact ⟨hT, hMk _ _ hJ.out.m, g1, by rw [g2]; exact hJ.out.p, by rw [g5]; have := hJ.out.x; omega, by have := hJ.out.n; omega, hL20.out⟩)
              clear hT hMk hto
              go_wp2_with fail
              go_meet
              case rel => exact ⟨L, n, _, M, rfl, rfl, hE⟩
            · by_cases hq7 : q = 7 ∧ Y = 0
              · obtain ⟨rfl, rfl⟩ := hq7
                go_wp2_with fail
                refine (hJ.out.h.clear hw2.out).mono ?_
                rintro e x2 ⟨rfl, hT, hMk⟩
                have hE := hide (⟨hT, hMk _ _ hJ.out.m, hJ.out.l, hJ.out.p, hJ.out.x, hJ.out.n, hJ.out.k⟩ : HJ w x2 b mb (clearG r) M n lim P i)
                clear hT hMk
                go_wp2_with fail
                refine (hE.out.h.len 0 rfl).mono ?_
                rintro e x3 ⟨rfl, hj3⟩
                go_wp2_with fail
                go_meet
                case rel => exact ⟨lim, n, _, M, rfl, rfl, hide ((hE.out.keep hj3).mono (by omega))⟩
              · have f5 : ¬ (q : Int) = 5 := by omega
                have f6 : ¬ (q : Int) = 6 := by omega
                have f5b : ((q : Int) == 5) = false := by simp; omega
                have f6b : ((q : Int) == 6) = false := by simp; omega
                by_cases h7 : q = 7
                · subst h7
                  have f7 : ¬ (Y : Int) = 0 := by omega
                  have f7b : ((Y : Int) == 0) = false := by simp; omega
                  have d1 : IntKind.i64.wrap (1024 + (i : Int)) = 1024 + (i : Int) := by rw [IntKind.wrap_i64]; have := hi80.out; omega
                  have d2 : IntKind.i32.wrap (1024 + (i : Int)) = 1024 + (i : Int) := by rw [IntKind.wrap_i32]; have := hi80.out; omega
                  go_wp2_with fail
                  refine (text8_any (1024 + (i : Int)) wr).mono ?_
                  rintro e x2 ⟨a5, n5, c5, rfl, ho5, h5a, h5b, hj2⟩
                  go_upto_region 12 with (refine wpList_store_lin rfl rfl rfl x2.heap.size rfl (LinIn.new x2 none 0 0 false) a5 n5 c5 false rfl ?_; intro x3 hb3 hj3)
                  have hj23 : Kept [] x2 x3 := ((Kept.refl [] x2).alloc (.cells #[.slice none 0 0, .bool false] 31)).trans hj3 (by simp)
                  have ho5 := ho5.kept hj23 (by simp)
                  have hM3 := hide (hJ.out.m.kept (hj2.trans hj23 (by simp)) (by simp))
                  obtain ⟨z, hz⟩ : ∃ z : Nat, r.next = z := ⟨_, rfl⟩
                  have hxs := hide (show wr.heap.size ≤ x2.heap.size from hj2.size)
                  obtain ⟨R, hR⟩ : ∃ R, (pushG r ⟨[runeC (1024 + (i : Int))], false⟩).1 = R := ⟨_, rfl⟩
                  have hto := (push_to r ⟨[runeC (1024 + (i : Int))], false⟩ (rune_ok8 i hi80.out)).2
                  have hP := hJ.out.h.push hw2.out (hj2.trans hj23 (by simp)) a5 n5 c5 ⟨[runeC (1024 + (i : Int))], false⟩ ⟨ho5.rd, rfl, h5a, h5b⟩ (fun y hy => ⟨(ho5.ge y (blkN_sub'' hy)).1, (ho5.ge y (blkN_sub'' hy)).2⟩) (rune_ok8 i hi80.out) hnx.out
                  rw [hR] at hto hP
                  rw [hz] at hP
                  have hRl := hide (show R.limit = lim by obtain ⟨_, g1, _⟩ := hto; rw [g1]; exact hJ.out.l)
                  have hRp := hide (show R.places = P by obtain ⟨_, _, g1, _⟩ := hto; rw [g1]; exact hJ.out.p)
                  have hRx := hide (show R.next = z + 1 by obtain ⟨_, _, _, _, _, g1⟩ := hto; rw [g1, hz])
                  have hzi := hide (show z ≤ i by rw [← hz]; exact hJ.out.x)
                  have hP := hide hP
                  have hb3' := hide hb3
                  obtain ⟨p0, p1⟩ := hb3.at
                  replace hz := hide hz
                  replace hR := hide hR
                  clear hto hj2 hj3 hj23 ho5 h5a h5b hb3
                  go_wp2_with fail
                  refine hP.out.mono ?_
                  rintro e x4 ⟨rfl, hT, hMk, B, hkB, hB⟩
                  have hb4 := hide (hb3'.out.kept hkB (fun hm => by have := hB _ hm; have := hxs.out; omega))
                  have hM4 := hide (hMk _ _ hM3.out)
                  have hT4 := hide hT
                  clear hT hMk hkB hB p0 p1 hb3' hP
                  have d3 : IntKind.i64.wrap ((z : Int) + 1 - 1) = (z : Int) := by rw [IntKind.wrap_i64]; have := hzi.out; have := hi80.out; omega
                  have d4 : IntKind.i64.wrap ((z : Int) + 1) = (z : Int) + 1 := by rw [IntKind.wrap_i64]; have := hzi.out; have := hi80.out; omega
                  have d5 : ((z : Int) != (z : Int)) = false := by simp
                  have d6 : IntKind.i64.wrap (z : Int) = (z : Int) := by rw [IntKind.wrap_i64]; have := hzi.out; have := hi80.out; omega
                  go_wp2_with fail
                  refine (hT4.out.next ((z : Int) + 1) (by rw [hRx.out]; rfl)).mono ?_
                  rintro e x5 ⟨rfl, k5⟩
                  obtain ⟨p0, p1⟩ := (hb4.out.kept k5 (by simp)).at
                  have hzw := hide (wf64 (k := (z : Int)) (by have := hzi.out; have := hi80.out; omega))
                  have hM5 := hide (hM4.out.kept k5 (by simp))
                  have hT5 := hide (hT4.out.keep k5)
                  have hnm := hide (show n < maxLen by have := hJ.out.n; have := hi80.out; unfold maxLen; omega)
                  clear hM4 hT4 k5 hb4
                  go_upto_region 15 with fail
                  go_wp2_with (refine wpList_mapL rfl _ _ _ rfl rfl hM5.out hnm.out (z : Int) hzw.out rfl ⟨a5, n5, c5, false⟩ rfl ?_; intro x6 hM6 hj6)
                  go_meet
                  case rel => exact ⟨lim, n + 1, R, _, rfl, rfl, hide ⟨hT5.out.map hw2.out hj6, hM6, hRl.out, hRp.out, by rw [hRx.out]; have := hzi.out; omega, by have := hJ.out.n; omega, hJ.out.k⟩⟩
                · have f7 : ¬ (q : Int) = 7 := by omega
                  have f7b : ((q : Int) == 7) = false := by simp; omega
                  have d1 : IntKind.i64.wrap (1024 + (i : Int)) = 1024 + (i : Int) := by rw [IntKind.wrap_i64]; have := hi80.out; omega
                  have d2 : IntKind.i32.wrap (1024 + (i : Int)) = 1024 + (i : Int) := by rw [IntKind.wrap_i32]; have := hi80.out; omega
                  go_wp2_with fail
                  refine (text8_any (1024 + (i : Int)) wr).mono ?_
                  rintro e x2 ⟨a5, n5, c5, rfl, ho5, h5a, h5b, hj2⟩
                  go_upto_region 12 with (refine wpList_store_lin rfl rfl rfl x2.heap.size rfl (LinIn.new x2 none 0 0 false) a5 n5 c5 false rfl ?_; intro x3 hb3 hj3)
                  have hj23 : Kept [] x2 x3 := ((Kept.refl [] x2).alloc (.cells #[.slice none 0 0, .bool false] 31)).trans hj3 (by simp)
                  have ho5 := ho5.kept hj23 (by simp)
                  have hM3 := hide (hJ.out.m.kept (hj2.trans hj23 (by simp)) (by simp))
                  obtain ⟨z, hz⟩ : ∃ z : Nat, r.next = z := ⟨_, rfl⟩
                  have hxs := hide (show wr.heap.size ≤ x2.heap.size from hj2.size)
                  obtain ⟨R, hR⟩ : ∃ R, (pushG r ⟨[runeC (1024 + (i : Int))], false⟩).1 = R := ⟨_, rfl⟩
                  have hto := (push_to r ⟨[runeC (1024 + (i : Int))], false⟩ (rune_ok8 i hi80.out)).2
                  have hP := hJ.out.h.push hw2.out (hj2.trans hj23 (by simp)) a5 n5 c5 ⟨[runeC (1024 + (i : Int))], false⟩ ⟨ho5.rd, rfl, h5a, h5b⟩ (fun y hy => ⟨(ho5.ge y (blkN_sub'' hy)).1, (ho5.ge y (blkN_sub'' hy)).2⟩) (rune_ok8 i hi80.out) hnx.out
                  rw [hR] at hto hP
                  rw [hz] at hP
                  have hRl := hide (show R.limit = lim by obtain ⟨_, g1, _⟩ := hto; rw [g1]; exact hJ.out.l)
                  have hRp := hide (show R.places = P by obtain ⟨_, _, g1, _⟩ := hto; rw [g1]; exact hJ.out.p)
                  have hRx := hide (show R.next = z + 1 by obtain ⟨_, _, _, _, _, g1⟩ := hto; rw [g1, hz])
                  have hzi := hide (show z ≤ i by rw [← hz]; exact hJ.out.x)
                  have hP := hide hP
                  have hb3' := hide hb3
                  obtain ⟨p0, p1⟩ := hb3.at
                  replace hz := hide hz
                  replace hR := hide hR
                  clear hto hj2 hj3 hj23 ho5 h5a h5b hb3
                  go_wp2_with fail
                  refine hP.out.mono ?_
                  rintro e x4 ⟨rfl, hT, hMk, B, hkB, hB⟩
                  have hb4 := hide (hb3'.out.kept hkB (fun hm => by have := hB _ hm; have := hxs.out; omega))
                  have hM4 := hide (hMk _ _ hM3.out)
                  have hT4 := hide hT
                  clear hT hMk hkB hB p0 p1 hb3' hP
                  have d3 : IntKind.i64.wrap ((z : Int) + 1 - 1) = (z : Int) := by rw [IntKind.wrap_i64]; have := hzi.out; have := hi80.out; omega
                  have d4 : IntKind.i64.wrap ((z : Int) + 1) = (z : Int) + 1 := by rw [IntKind.wrap_i64]; have := hzi.out; have := hi80.out; omega
                  have d5 : ((z : Int) != (z : Int)) = false := by simp
                  have d6 : IntKind.i64.wrap (z : Int) = (z : Int) := by rw [IntKind.wrap_i64]; have := hzi.out; have := hi80.out; omega
                  go_wp2_with fail
                  refine (hT4.out.next ((z : Int) + 1) (by rw [hRx.out]; rfl)).mono ?_
                  rintro e x5 ⟨rfl, k5⟩
                  obtain ⟨p0, p1⟩ := (hb4.out.kept k5 (by simp)).at
                  have hzw := hide (wf64 (k := (z : Int)) (by have := hzi.out; have := hi80.out; omega))
                  have hM5 := hide (hM4.out.kept k5 (by simp))
                  have hT5 := hide (hT4.out.keep k5)
                  have hnm := hide (show n < maxLen by have := hJ.out.n; have := hi80.out; unfold maxLen; omega)
                  clear hM4 hT4 k5 hb4
                  go_upto_region 15 with fail
                  go_wp2_with (refine wpList_mapL rfl _ _ _ rfl rfl hM5.out hnm.out (z : Int) hzw.out rfl ⟨a5, n5, c5, false⟩ rfl ?_; intro x6 hM6 hj6)
                  go_meet
                  case rel => exact ⟨lim, n + 1, R, _, rfl, rfl, hide ⟨hT5.out.map hw2.out hj6, hM6, hRl.out, hRp.out, by rw [hRx.out]; have := hzi.out; omega, by have := hJ.out.n; omega, hJ.out.k⟩⟩
        case rest =>
          obtain ⟨lim', n', r', M', rfl, rfl, hE⟩ := hcut
          replace hJ := hide trivial
          have hok := hE.out.h.ok
          obtain ⟨f, hf⟩ : ∃ f : Nat, r'.first = f := ⟨_, rfl⟩
          obtain ⟨z, hz⟩ : ∃ z : Nat, r'.next = z := ⟨_, rfl⟩
          obtain ⟨l, hl⟩ : ∃ l : Nat, r'.ls.length = l := ⟨_, rfl⟩
          obtain ⟨p, hp⟩ : ∃ p : Nat, r'.ps.length = p := ⟨_, rfl⟩
          have hzfl : z = f + l := by rw [← hz, ← hf, ← hl]; rfl
          have hll : l ≤ lim' := by rw [← hl, ← hE.out.l]; exact hok.le
          have hpl : p ≤ lim' / P + 2 := by rw [← hp, ← hE.out.l, ← hE.out.p]; exact pages_lim hok
          have hzi : z ≤ i + 1 := by rw [← hz]; exact hE.out.x
          have hk20 := hE.out.k
          have hi8 := hi80.out
          have hP6' := hP6.out
          have hnl := hide (show r'.next ≤ 1000000000 by rw [hz]; omega)
          have hfs := hide (show ((r'.first : Nat) : Int) = (f : Int) by rw [hf])
          have hnx := hide (show ((r'.next : Nat) : Int) = (z : Int) by rw [hz])
          have hln := hide (show ((r'.ls.length : Nat) : Int) = (l : Int) by rw [hl])
          have hpg := hide (show ((r'.ps.length : Nat) : Int) = (p : Int) by rw [hp])
          have hff := hide hf
          have hzz := hide hz
          have hP0 : ¬ P = 0 := by omega
          have hPi : ¬ (P : Int) = 0 := by omega
          have hPb : ((P : Int) == 0) = false := by simp; omega
          have hMP : lim' / P ≤ lim' := Nat.div_le_self _ _
          have hq : (lim' : Int) / (P : Int) = ((lim' / P : Nat) : Int) := rfl
          have hq2 : Int.tdiv (lim' : Int) (P : Int) = ((lim' / P : Nat) : Int) := rfl
          clear hf hz hl hp
          generalize lim' / P = Q at *
          have c5 : IntKind.i64.wrap (Q : Int) = (Q : Int) := by rw [IntKind.wrap_i64]; omega
          have c6 : IntKind.i64.wrap ((Q : Int) + 2) = (Q : Int) + 2 := by rw [IntKind.wrap_i64]; omega
          have c7 : decide ((Q : Int) + 2 < (p : Int)) = false := by simp; omega
          have c7n : ¬ (Q : Int) + 2 < (p : Int) := by omega
          have c7' : (p : Int) ≤ (Q : Int) + 2 := by omega
          have c8 : decide (lim' < l) = false := by simp; omega
          have c8' : l ≤ lim' := hll
          have c8n : ¬ lim' < l := by omega
          have c9 : IntKind.i64.wrap ((z : Int) - (f : Int)) = (l : Int) := by rw [IntKind.wrap_i64]; omega
          have c10 : ((l : Int) != (l : Int)) = false := by simp
          have hzb := hide (show f + l = z ∧ z ≤ 81 by omega)
          clear hzfl hll hpl hzi hk20 hi8 hP6' hMP hok
          go_upto_region 28 with fail
          refine wp_region_held_drew (S := (fun w1 => HJ w w1 b mb r' M' n' lim' P (i + 1))) (by kernel_rfl) ?_ (fun hHeld => ?_)
          · (try dsimp only); (first | exact hB5 | exact hB4 | exact hB3 | exact hB2 | exact hB1 | exact hE.out.keep (Kept.refl [] _).drew)
          refine wpAnyH_take (i := 0) (v := ?_) rfl (by kernel_rfl) (by kernel_rfl) (by kernel_rfl) (fun _ _ _ h => h) (Or.inl ⟨by rfl, ?_⟩) (by assumption) ?_
          rotate_left
          · (intro wq hSw; (try dsimp only at hSw); go_simp; try with_reducible rfl)
          try simp only [Act.put, List.getElem_toArray, List.getElem_cons_zero, List.setIfInBounds_toArray, List.set_cons_zero, List.set_cons_succ]
          refine wpAnyH_take (i := 2) (v := ?_) rfl (by kernel_rfl) (by kernel_rfl) (by kernel_rfl) (fun _ _ _ h => h) (Or.inl ⟨by rfl, ?_⟩) (by assumption) ?_
          rotate_left
          · (intro wq hSw; (try dsimp only at hSw); go_simp; try with_reducible rfl)
          try simp only [Act.put, List.getElem_toArray, List.getElem_cons_succ, List.getElem_cons_zero, List.setIfInBounds_toArray, List.set_cons_zero, List.set_cons_succ]
          refine wpAnyH_ready (rs := [1]) (by kernel_rfl) (by simp) ?_
          refine AllReadyH.cons rfl (fun K hK => ?_) AllReadyH.nil
          go_simp
          refine (hHeld.h.len (l : Int) hln.out).mono ?_; rintro e y1 ⟨rfl, g1⟩; have hB1 := hHeld.keep g1
          try go_wp2_with fail
          refine hK.out _ _ ?_ (fun hHeld => ?_)
          · (try dsimp only); (first | exact hB5 | exact hB4 | exact hB3 | exact hB2 | exact hB1 | exact hE.out.keep (Kept.refl [] _).drew)
          clear hK K
          try simp only [Act.put, List.getElem_toArray, List.getElem_cons_succ, List.getElem_cons_zero, List.setIfInBounds_toArray, List.set_cons_zero, List.set_cons_succ]
          refine wpAnyH_take (i := 3) (v := ?_) rfl (by kernel_rfl) (by kernel_rfl) (by kernel_rfl) (fun _ _ _ h => h) (Or.inl ⟨by rfl, ?_⟩) (by assumption) ?_
          rotate_left
          · (intro wq hSw; (try dsimp only at hSw); go_simp; try with_reducible rfl)
          try simp only [Act.put, List.getElem_toArray, List.getElem_cons_succ, List.getElem_cons_zero, List.setIfInBounds_toArray, List.set_cons_zero, List.set_cons_succ]
          refine wpAnyH_take (i := 4) (v := ?_) rfl (by kernel_rfl) (by kernel_rfl) (by kernel_rfl) (fun _ _ _ h => h) (Or.inl ⟨by rfl, ?_⟩) (by assumption) ?_
          rotate_left
          · (intro wq hSw; (try dsimp only at hSw); go_simp; try with_reducible rfl)
          try simp only [Act.put, List.getElem_toArray, List.getElem_cons_succ, List.getElem_cons_zero, List.setIfInBounds_toArray, List.set_cons_zero, List.set_cons_succ]
          refine wpAnyH_take (i := 5) (v := ?_) rfl (by kernel_rfl) (by kernel_rfl) (by kernel_rfl) (fun _ _ _ h => h) (Or.inl ⟨by rfl, ?_⟩) (by assumption) ?_
          rotate_left
          · (intro wq hSw; (try dsimp only at hSw); go_simp; try with_reducible rfl)
          try simp only [Act.put, List.getElem_toArray, List.getElem_cons_succ, List.getElem_cons_zero, List.setIfInBounds_toArray, List.set_cons_zero, List.set_cons_succ]
          refine wpAnyH_take (i := 7) (v := ?_) rfl (by kernel_rfl) (by kernel_rfl) (by kernel_rfl) (fun _ _ _ h => h) (Or.inl ⟨by rfl, ?_⟩) (by assumption) ?_
          rotate_left
          · (intro wq hSw; (try dsimp only at hSw); go_simp; try with_reducible rfl)
          try simp only [Act.put, List.getElem_toArray, List.getElem_cons_succ, List.getElem_cons_zero, List.setIfInBounds_toArray, List.set_cons_zero, List.set_cons_succ]
          refine wpAnyH_take (i := 9) (v := ?_) rfl (by kernel_rfl) (by kernel_rfl) (by kernel_rfl) (fun _ _ _ h => h) (Or.inl ⟨by rfl, ?_⟩) (by assumption) ?_
          rotate_left
          · (intro wq hSw; (try dsimp only at hSw); go_simp; try with_reducible rfl)
          try simp only [Act.put, List.getElem_toArray, List.getElem_cons_succ, List.getElem_cons_zero, List.setIfInBounds_toArray, List.set_cons_zero, List.set_cons_succ]
          refine wpAnyH_ready (rs := [6]) (by kernel_rfl) (by simp) ?_
          refine AllReadyH.cons rfl (fun K hK => ?_) AllReadyH.nil
          go_simp
          refine (hB1.h.len (l : Int) hln.out).mono ?_; rintro e y2 ⟨rfl, g2⟩; have hB2 := hB1.keep g2
          try go_wp2_with fail
          refine hK.out _ _ ?_ (fun hHeld => ?_)
          · (try dsimp only); (first | exact hB5 | exact hB4 | exact hB3 | exact hB2 | exact hB1 | exact hE.out.keep (Kept.refl [] _).drew)
          clear hK K
          try simp only [Act.put, List.getElem_toArray, List.getElem_cons_succ, List.getElem_cons_zero, List.setIfInBounds_toArray, List.set_cons_zero, List.set_cons_succ]
          refine wpAnyH_ready (rs := [8]) (by kernel_rfl) (by simp) ?_
          refine AllReadyH.cons rfl (fun K hK => ?_) AllReadyH.nil
          go_simp
          refine (hB2.h.next (z : Int) hnx.out).mono ?_; rintro e y3 ⟨rfl, g3⟩; have hB3 := hB2.keep g3
          try go_wp2_with fail
          refine hK.out _ _ ?_ (fun hHeld => ?_)
          · (try dsimp only); (first | exact hB5 | exact hB4 | exact hB3 | exact hB2 | exact hB1 | exact hE.out.keep (Kept.refl [] _).drew)
          clear hK K
          try simp only [Act.put, List.getElem_toArray, List.getElem_cons_succ, List.getElem_cons_zero, List.setIfInBounds_toArray, List.set_cons_zero, List.set_cons_succ]
          refine wpAnyH_ready (rs := [10]) (by kernel_rfl) (by simp) ?_
          refine AllReadyH.cons rfl (fun K hK => ?_) AllReadyH.nil
          go_simp
          refine (hB3.h.first (f : Int) hfs.out).mono ?_; rintro e y4 ⟨rfl, g4⟩; have hB4 := hB3.keep g4
          try go_wp2_with fail
          refine hK.out _ _ ?_ (fun hHeld => ?_)
          · (try dsimp only); (first | exact hB5 | exact hB4 | exact hB3 | exact hB2 | exact hB1 | exact hE.out.keep (Kept.refl [] _).drew)
          clear hK K
          try simp only [Act.put, List.getElem_toArray, List.getElem_cons_succ, List.getElem_cons_zero, List.setIfInBounds_toArray, List.set_cons_zero, List.set_cons_succ]
          refine wpAnyH_take (i := 11) (v := ?_) rfl (by kernel_rfl) (by kernel_rfl) (by kernel_rfl) (fun _ _ _ h => h) (Or.inl ⟨by rfl, ?_⟩) (by assumption) ?_
          rotate_left
          · (intro wq hSw; (try dsimp only at hSw); go_simp; try with_reducible rfl)
          try simp only [Act.put, List.getElem_toArray, List.getElem_cons_succ, List.getElem_cons_zero, List.setIfInBounds_toArray, List.set_cons_zero, List.set_cons_succ]
          refine wpAnyH_take (i := 12) (v := ?_) rfl (by kernel_rfl) (by kernel_rfl) (by kernel_rfl) (fun _ _ _ h => h) (Or.inl ⟨by rfl, ?_⟩) (by assumption) ?_
          rotate_left
          · (intro wq hSw; (try dsimp only at hSw); go_simp; try with_reducible rfl)
          try simp only [Act.put, List.getElem_toArray, List.getElem_cons_succ, List.getElem_cons_zero, List.setIfInBounds_toArray, List.set_cons_zero, List.set_cons_succ]
          refine wpAnyH_take (i := 13) (v := ?_) rfl (by kernel_rfl) (by kernel_rfl) (by kernel_rfl) (fun _ _ _ h => h) (Or.inl ⟨by rfl, ?_⟩) (by assumption) ?_
          rotate_left
          · (intro wq hSw; (try dsimp only at hSw); go_simp; try with_reducible rfl)
          try simp only [Act.put, List.getElem_toArray, List.getElem_cons_succ, List.getElem_cons_zero, List.setIfInBounds_toArray, List.set_cons_zero, List.set_cons_succ]
          refine wpAnyH_take (i := 14) (v := ?_) rfl (by kernel_rfl) (by kernel_rfl) (by kernel_rfl) (fun _ _ _ h => h) (Or.inl ⟨by rfl, ?_⟩) (by assumption) ?_
          rotate_left
          · (intro wq hSw; (try dsimp only at hSw); go_simp; try with_reducible rfl)
          try simp only [Act.put, List.getElem_toArray, List.getElem_cons_succ, List.getElem_cons_zero, List.setIfInBounds_toArray, List.set_cons_zero, List.set_cons_succ]
          refine wpAnyH_take (i := 15) (v := ?_) rfl (by kernel_rfl) (by kernel_rfl) (by kernel_rfl) (fun _ _ _ h => h) (Or.inl ⟨by rfl, ?_⟩) (by assumption) ?_
          rotate_left
          · (intro wq hSw; (try dsimp only at hSw); go_simp; try with_reducible rfl)
          try simp only [Act.put, List.getElem_toArray, List.getElem_cons_succ, List.getElem_cons_zero, List.setIfInBounds_toArray, List.set_cons_zero, List.set_cons_succ]
          refine wpAnyH_take (i := 17) (v := ?_) rfl (by kernel_rfl) (by kernel_rfl) (by kernel_rfl) (fun _ _ _ h => h) (Or.inl ⟨by rfl, ?_⟩) (by assumption) ?_
          rotate_left
          · (intro wq hSw; (try dsimp only at hSw); go_simp; try with_reducible rfl)
          try simp only [Act.put, List.getElem_toArray, List.getElem_cons_succ, List.getElem_cons_zero, List.setIfInBounds_toArray, List.set_cons_zero, List.set_cons_succ]
          refine wpAnyH_take (i := 18) (v := ?_) rfl (by kernel_rfl) (by kernel_rfl) (by kernel_rfl) (fun _ _ _ h => h) (Or.inl ⟨by rfl, ?_⟩) (by assumption) ?_
          rotate_left
          · (intro wq hSw; (try dsimp only at hSw); go_simp; try with_reducible rfl)
          try simp only [Act.put, List.getElem_toArray, List.getElem_cons_succ, List.getElem_cons_zero, List.setIfInBounds_toArray, List.set_cons_zero, List.set_cons_succ]
          refine wpAnyH_take (i := 19) (v := ?_) rfl (by kernel_rfl) (by kernel_rfl) (by kernel_rfl) (fun _ _ _ h => h) (Or.inl ⟨by rfl, ?_⟩) (by assumption) ?_
          rotate_left
          · (intro wq hSw; (try dsimp only at hSw); go_simp; try with_reducible rfl)
          try simp only [Act.put, List.getElem_toArray, List.getElem_cons_succ, List.getElem_cons_zero, List.setIfInBounds_toArray, List.set_cons_zero, List.set_cons_succ]
          refine wpAnyH_take (i := 20) (v := ?_) rfl (by kernel_rfl) (by kernel_rfl) (by kernel_rfl) (fun _ _ _ h => h) (Or.inl ⟨by rfl, ?_⟩) (by assumption) ?_
          rotate_left
          · (intro wq hSw; (try dsimp only at hSw); go_simp; try with_reducible rfl)
          try simp only [Act.put, List.getElem_toArray, List.getElem_cons_succ, List.getElem_cons_zero, List.setIfInBounds_toArray, List.set_cons_zero, List.set_cons_succ]
          refine wpAnyH_take (i := 21) (v := ?_) rfl (by kernel_rfl) (by kernel_rfl) (by kernel_rfl) (fun _ _ _ h => h) (Or.inl ⟨by rfl, ?_⟩) (by assumption) ?_
          rotate_left
          · (intro wq hSw; (try dsimp only at hSw); go_simp; try with_reducible rfl)
          try simp only [Act.put, List.getElem_toArray, List.getElem_cons_succ, List.getElem_cons_zero, List.setIfInBounds_toArray, List.set_cons_zero, List.set_cons_succ]
          refine wpAnyH_ready (rs := [16]) (by kernel_rfl) (by simp) ?_
          refine AllReadyH.cons rfl (fun K hK => ?_) AllReadyH.nil
          go_simp
          refine (hB4.h.pages (p : Int) hpg.out).mono ?_; rintro e y5 ⟨rfl, g5⟩; have hB5 := hB4.keep g5
          try go_wp2_with fail
          refine hK.out _ _ ?_ (fun hHeld => ?_)
          · (try dsimp only); (first | exact hB5 | exact hB4 | exact hB3 | exact hB2 | exact hB1 | exact hE.out.keep (Kept.refl [] _).drew)
          clear hK K
          try simp only [Act.put, List.getElem_toArray, List.getElem_cons_succ, List.getElem_cons_zero, List.setIfInBounds_toArray, List.set_cons_zero, List.set_cons_succ]
          refine wpAnyH_take (i := 22) (v := ?_) rfl (by kernel_rfl) (by kernel_rfl) (by kernel_rfl) (fun _ _ _ h => h) (Or.inl ⟨by rfl, ?_⟩) (by assumption) ?_
          rotate_left
          · (intro wq hSw; (try dsimp only at hSw); go_simp; try with_reducible rfl)
          try simp only [Act.put, List.getElem_toArray, List.getElem_cons_succ, List.getElem_cons_zero, List.setIfInBounds_toArray, List.set_cons_zero, List.set_cons_succ]
          refine wpAnyH_take (i := 23) (v := ?_) rfl (by kernel_rfl) (by kernel_rfl) (by kernel_rfl) (fun _ _ _ h => h) (Or.inl ⟨by rfl, ?_⟩) (by assumption) ?_
          rotate_left
          · (intro wq hSw; (try dsimp only at hSw); go_simp; try with_reducible rfl)
          try simp only [Act.put, List.getElem_toArray, List.getElem_cons_succ, List.getElem_cons_zero, List.setIfInBounds_toArray, List.set_cons_zero, List.set_cons_succ]
          refine wpAnyH_done (by kernel_rfl) ?_ _
          have hE5 := hide hB5
          clear hB1 hB2 hB3 hB4 hB5 g1 g2 g3 g4 g5 hHeld hE c7 c7n c7' c8 c8' c8n c9 c10 c5 c6 hq hq2 hPb hPi hP0
          go_wp2_with fail
          refine (hE5.out.h.first (f : Int) hfs.out).mono ?_
          rintro e y6 ⟨rfl, g6⟩
          have hE6 := hide (hE5.out.keep g6)
          clear hE5 g6
          go_wp2_with fail
          go_loopg [18, 153, 154, 155, 156, 157, 158, 159, 160, 161, 162, 163, 164, 165, 166, 167, 168, 169, 170, 171, 172] z (fun kx s18 s153 s154 s155 s156 s157 s158 s159 s160 s161 s162 s163 s164 s165 s166 s167 s168 s169 s170 s171 s172 wr => ∃ k : Nat, s18 = .int .i64 k ∧ f ≤ k ∧ k ≤ z ∧ z - k ≤ kx ∧ Hid (HJ w wr b mb r' M' n' lim' P (i + 1)))
          case atStart => exact ⟨f, rfl, Nat.le_refl _, by have := hzb.out; omega, by omega, hE6⟩
          case round =>
            obtain ⟨k, rfl, hfk, hkz, hg2, hE7⟩ := hrel
            clear hE6
            have d1 : IntKind.i64.wrap ((f : Int) + 20) = (f : Int) + 20 := by rw [IntKind.wrap_i64]; have := hzb.out; omega
            have d2 : IntKind.i64.wrap ((k : Int) + 1) = (k : Int) + 1 := by rw [IntKind.wrap_i64]; have := hzb.out; omega
            by_cases hkl : k < z
            · have d3 : decide ((k : Int) < (z : Int)) = true := by simp; omega
              have d3n : decide (k < z) = true := by simp; omega
              by_cases hk2 : k ≤ f + 20
              · have d4 : decide ((k : Int) ≤ (f : Int) + 20) = true := by simp; omega
                have d4' : (k : Int) ≤ (f : Int) + 20 := by omega
                have hkf := hide (show r'.first ≤ k ∧ k < r'.next by rw [hff.out, hzz.out]; omega)
                have hkw := hide (wf64 (k := (k : Int)) (by have := hzb.out; omega))
                go_wp2_with fail
                refine (hE7.out.h.next (z : Int) hnx.out).mono ?_
                rintro e y7 ⟨rfl, g1⟩
                have hB1 := hE7.out.keep g1
                go_wp2_with fail
                refine (hB1.h.first (f : Int) hfs.out).mono ?_
                rintro e y8 ⟨rfl, g2⟩
                have hB2 := hB1.keep g2
                have hE8 := hide hB2
                have hlk := hE8.out.m.look (k : Int) hkw.out
                clear hB1 hB2 g1 g2
                go_wp2_with fail
                refine (hE8.out.h.gets hnl.out k hkf.out.1 hkf.out.2).mono ?_
                rintro e y9 ⟨rfl, g3⟩
                have hE9 := hide (hE8.out.keep g3)
                clear hlk g3 hE8
                go_wp2_with fail
                go_roundg (z - (k + 1))
                case measure => omega
                case rel => exact ⟨k + 1, by push_cast; rfl, by omega, by omega, Nat.le_refl _, hE9⟩
              · have d4 : decide ((k : Int) ≤ (f : Int) + 20) = false := by simp; omega
                have d4' : ¬ (k : Int) ≤ (f : Int) + 20 := by omega
                go_wp2_with fail
                refine (hE7.out.h.next (z : Int) hnx.out).mono ?_
                rintro e y7 ⟨rfl, g1⟩
                have hB1 := hE7.out.keep g1
                go_wp2_with fail
                refine (hB1.h.first (f : Int) hfs.out).mono ?_
                rintro e y8 ⟨rfl, g2⟩
                have hB2 := hB1.keep g2
                have hE8 := hide hB2
                clear hB1 hB2 g1 g2
                go_wp2_with fail
                go_roundg (N - (i + 1))
                case measure => omega
                case rel => exact ⟨i + 1, lim', n', r', M', by push_cast; rfl, rfl, by omega, Nat.le_refl _, hE8⟩
            · have d3 : decide ((k : Int) < (z : Int)) = false := by simp; omega
              have d3n : decide (k < z) = false := by simp; omega
              go_wp2_with fail
              refine (hE7.out.h.next (z : Int) hnx.out).mono ?_
              rintro e y7 ⟨rfl, g1⟩
              have hB1 := hE7.out.keep g1
              have hE8 := hide hB1
              clear hB1 g1
              go_wp2_with fail
              go_roundg (N - (i + 1))
              case measure => omega
              case rel => exact ⟨i + 1, lim', n', r', M', by push_cast; rfl, rfl, by omega, Nat.le_refl _, hE8⟩
      · have hiN : ¬ (i : Int) < (N : Int) := by omega
        replace hJ := hide hJ.out
        go_wp2_with fail
        refine (hkn0.out wr hJ.out.h.kp).mono ?_
        rintro e x5 ⟨rfl, j5⟩
        go_wp2_with fail
        go_ret
        exact ⟨rfl, hJ.out.h.kp.trans j5 (by simp)⟩
end Go.Proofs.YtnkddhmhjnhgcaaDoor
