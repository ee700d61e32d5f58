/- The reference's runs of cells. -/
import Derived.Test.YtpdjlollijbdeaaDoorPakPk
import Derived.Test.YtpdjlollijbdeaaDoorPakRef
import Derived.Test.YtpdjlollijbdeaaDoorCelOp
namespace Go.Proofs.YtpdjlollijbdeaaDoor
open Go.RowKit
set_option linter.unusedVariables false
set_option maxRecDepth 10000

theorem take_group {l : List Cl} {i k : Nat} {x : Cl} (h : l.take k = l.take i ++ List.replicate (k - i) x) (hik : i ≤ k) (hk : k < l.length) (hx : l[k] = x) : l.take (k + 1) = l.take i ++ List.replicate (k + 1 - i) x := by
  rw [List.take_succ_eq_append_getElem hk, h, hx, show k + 1 - i = k - i + 1 by omega, List.replicate_succ', List.append_assoc]

theorem group_next {l : List Cl} {i k : Nat} {x : Cl} (hi : i < k) (hT : l.take k = l.take i ++ List.replicate (k - i) x) (hvx : validC x = true) (hBB : ∀ y ∈ l, PnB y.p) (hx : PnB x.p) (hlx : lastW (packL (l.take i)) ≠ some (wordsC x))
    (hv : ∀ y ∈ l.take i, validC y = true) (hne : ∀ y, l[k]? = some y → y ≠ x) :
    packL (l.take k) = packL (l.take i) ++ [⟨(k : Int) - i, wordsC x⟩] ∧ (∀ y ∈ l.take k, validC y = true) ∧ ∀ y, l[k]? = some y → validC y = true → lastW (packL (l.take k)) ≠ some (wordsC y) := by
  obtain ⟨m, hm⟩ : ∃ m, k - i = m + 1 := ⟨k - i - 1, by omega⟩
  rw [hm] at hT
  refine ⟨?_, ?_, ?_⟩
  · rw [hT, packL_group _ _ _ hlx]
    congr 3
    omega
  · rw [hT]
    intro y hy
    rcases List.mem_append.1 hy with hy | hy
    · exact hv y hy
    · rw [List.eq_of_mem_replicate hy]; exact hvx
  · intro y hy hvy
    rw [hT, packL_last']
    intro h
    injection h with h
    exact hne y hy (words_inj hvx hx hvy (hBB y (List.mem_of_getElem? hy)) h).symm

set_option maxHeartbeats 4000000 in
theorem rPack5_any (a : Option Addr) (n c : Nat) (l : List Cl) (hB : ∀ x ∈ l, PnB x.p) (w : World) (hr : Rd w a n 16 (cellsV l)) (hn : n ≤ 1000000) :
    Calls Tryd.prog 15 #[.slice a n c] w (RunsRet w (packR l)) := by
  have hl := hr.clen
  have hH := hide hr
  have hBB := hide hB
  have hP : Hid (packR l = if 100000 < l.length then ([], 5) else if (∀ c ∈ l, validC c = true) then (packL l, 0) else ([], 2)) := hide rfl
  generalize packR l = R at *
  clear hr hB
  by_cases hbig : 100000 < n
  · have hR : R = ([], 5) := by rw [hP.out, if_pos (by omega)]
    subst hR
    go_enter Tryd.func15, Tryd.ntmps15
    go_wp2_with fail
    go_ret2
    exact ⟨none, 0, 0, rfl, Own.nil _ _ _ _, Kept.refl _ _⟩
  · have hP2 : Hid (R = if (∀ c ∈ l, validC c = true) then (packL l, 0) else ([], 2)) := hide (by rw [hP.out, if_neg (by omega)])
    clear hP
    go_enter Tryd.func15, Tryd.ntmps15
    go_wp2_with fail
    have hl := hide hl
    go_loopg [4, 5, 6, 10, 11, 12, 13, 14, 15, 16, 17, 18, 19, 20, 21, 22, 23, 24, 25, 26, 27, 28, 29, 30, 31, 32, 33, 34, 35, 36, 37, 38, 39, 40, 41, 42, 43, 44, 45, 46, 47, 48, 49, 50] n (fun kx s4 s5 s6 s10 s11 s12 s13 s14 s15 s16 s17 s18 s19 s20 s21 s22 s23 s24 s25 s26 s27 s28 s29 s30 s31 s32 s33 s34 s35 s36 s37 s38 s39 s40 s41 s42 s43 s44 s45 s46 s47 s48 s49 s50 wr => ∃ (i : Nat) (a' : Option Addr) (n' c' : Nat), s4 = .slice a' n' c' ∧ s5 = .int .i64 i ∧ i ≤ n ∧ n - i ≤ kx ∧ n' ≤ i ∧ Hid (Own wr w.heap.size 67 a' n' c' 4 (runsV (packL (l.take i)))) ∧ Hid (∀ x ∈ l.take i, validC x = true) ∧ Hid (∀ x, l[i]? = some x → validC x = true → lastW (packL (l.take i)) ≠ some (wordsC x)) ∧ Kept [] w wr)
    case atStart => exact ⟨0, none, 0, 0, rfl, rfl, Nat.zero_le _, by omega, Nat.le_refl _, hide (Own.nil _ _ _ _), hide (by simp), hide (by intro x _ _ h; cases h), Kept.refl _ _⟩
    case round =>
      obtain ⟨i, a', n', c', rfl, rfl, hk, hg, hn', ho, hv, hlast, hkr⟩ := hrel
      by_cases hlt : i < n
      · have hkl : i < l.length := by rw [hl.out]; exact hlt
        obtain ⟨b, o, rfl⟩ := hH.out.addr (fun h => by rw [h] at hkl; cases hkl)
        have r1 := (hH.out.cel i hkl).kept hkr (by simp)
        have hkn : (i : Int) < (n : Int) := by omega
        have hxB := hBB.out l[i] (List.getElem_mem hkl)
        have hbad : Hid (validC l[i] = false → R = ([], 2)) := hide (fun h => by
          rw [hP2.out, if_neg]
          intro h2
          rw [h2 _ (List.getElem_mem hkl)] at h
          cases h)
        have hlx := hide (hlast.out l[i] (List.getElem?_eq_getElem hkl))
        have hxi : Hid (l[i]? = some l[i]) := hide (List.getElem?_eq_getElem hkl)
        generalize l[i] = x at *
        have hV := hide (fun w1 => rcvalid_any x w1)
        go_wp2_with (refine wpList_load_cel rfl rfl b (o + i * 16) rfl r1 ?_)
        refine (hV.out wr).mono ?_
        rintro e w2 ⟨rfl, hj2⟩
        have hk2 := hkr.trans hj2 (by simp)
        have ho2 := hide (ho.out.kept hj2 (by simp))
        clear hV r1 ho
        cases hvx : validC x
        · obtain rfl := hbad.out hvx
          go_wp2_with fail
          go_ret2
          exact ⟨none, 0, 0, rfl, Own.nil _ _ _ _, hk2⟩
        · clear hj2
          go_wp2_with fail
          go_loopg [6, 21, 22, 23, 24, 25, 26, 27, 28, 29, 30, 31, 32, 33, 34, 35, 36, 37] (n - i) (fun jx s6 s21 s22 s23 s24 s25 s26 s27 s28 s29 s30 s31 s32 s33 s34 s35 s36 s37 wr => ∃ (k : Nat), s6 = .int .i64 k ∧ i ≤ k ∧ k ≤ n ∧ n - k ≤ jx ∧ Hid (l.take k = l.take i ++ List.replicate (k - i) x) ∧ Hid (Own wr w.heap.size 67 a' n' c' 4 (runsV (packL (l.take i)))) ∧ Kept [] w wr)
          case atStart => exact ⟨i, rfl, Nat.le_refl _, by omega, by omega, hide (by simp), ho2, hk2⟩
          case round =>
            obtain ⟨k, rfl, hik, hkn2, hgk, hT, hok, hkk⟩ := hrel
            clear ho2 hk2 hkr
            by_cases hlt2 : k < n
            · have hkl2 : k < l.length := by rw [hl.out]; exact hlt2
              have hkn3 : (k : Int) < (n : Int) := by omega
              have ra := (hH.out.cel k hkl2).kept hkk (by simp)
              have rb := (hH.out.celAt hxi.out).kept hkk (by simp)
              have hyk : Hid (l[k]? = some l[k]) := hide (List.getElem?_eq_getElem hkl2)
              have hnx := hide (fun h => take_group hT.out hik hkl2 h)
              generalize l[k] = z at *
              by_cases hzx0 : z = x
              · have hq : ∀ w, (binOp .eql 30 (.agg #[.int .i32 z.r, .int .i32 z.m0, .int .i32 z.m1, .int .i32 z.m2, .int .i64 z.w, .int .i64 z.p.f.k, .int .u8 z.p.f.i, .int .u8 z.p.f.r, .int .u8 z.p.f.g, .int .u8 z.p.f.b, .int .i64 z.p.b.k, .int .u8 z.p.b.i, .int .u8 z.p.b.r, .int .u8 z.p.b.g, .int .u8 z.p.b.b, .int .u8 z.p.fl]) (.agg #[.int .i32 x.r, .int .i32 x.m0, .int .i32 x.m1, .int .i32 x.m2, .int .i64 x.w, .int .i64 x.p.f.k, .int .u8 x.p.f.i, .int .u8 x.p.f.r, .int .u8 x.p.f.g, .int .u8 x.p.f.b, .int .i64 x.p.b.k, .int .u8 x.p.b.i, .int .u8 x.p.b.r, .int .u8 x.p.b.g, .int .u8 x.p.b.b, .int .u8 x.p.fl])).run Tryd.prog w = .ok (.bool true) w := fun w => (eql_K z x w).trans (by rw [decide_eq_true hzx0])
                have hzx := hide hzx0
                clear hzx0
                go_upto_region 9 with fail
                refine wp_region_held_drew (S := (fun w' => CelR w' b (o + k * 16) z ∧ CelR w' b (o + i * 16) x)) (by kernel_rfl) ?_ (fun hHeld => ?_)
                · (try dsimp only); (exact ⟨ra.kept (Kept.refl [] wr).drew (by simp), rb.kept (Kept.refl [] wr).drew (by simp)⟩)
                refine wpAnyH_take (i := 0) (v := ?_) rfl (by kernel_rfl) (by kernel_rfl) (by kernel_rfl) (fun _ _ _ h => h) (Or.inl ⟨by rfl, ?_⟩) (by assumption) ?_
                rotate_left
                · (intro wq hSw; (try dsimp only at hSw); go_simp; try with_reducible rfl)
                try simp only [Act.put, List.getElem_toArray, List.getElem_cons_zero, List.setIfInBounds_toArray, List.set_cons_zero, List.set_cons_succ]
                refine wpAnyH_take (i := 1) (v := ?_) rfl (by kernel_rfl) (by kernel_rfl) (by kernel_rfl) (fun _ _ _ h => h) (Or.inl ⟨by rfl, ?_⟩) (by assumption) ?_
                rotate_left
                · (intro wq hSw; (try dsimp only at hSw); go_simp; try with_reducible rfl)
                try simp only [Act.put, List.getElem_toArray, List.getElem_cons_succ, List.getElem_cons_zero, List.setIfInBounds_toArray, List.set_cons_zero, List.set_cons_succ]
                refine wpAnyH_take (i := 2) (v := ?_) rfl (by kernel_rfl) (by kernel_rfl) (by kernel_rfl) (fun _ _ _ h => h) (Or.inl ⟨by rfl, ?_⟩) (by assumption) ?_
                rotate_left
                · (intro wq hSw; (try dsimp only at hSw); go_simp; try with_reducible rfl)
                try simp only [Act.put, List.getElem_toArray, List.getElem_cons_succ, List.getElem_cons_zero, List.setIfInBounds_toArray, List.set_cons_zero, List.set_cons_succ]
                refine wpAnyH_take (i := 3) (v := ?_) rfl (by kernel_rfl) (by kernel_rfl) (by kernel_rfl) (fun _ _ _ h => h) (Or.inl ⟨by rfl, ?_⟩) (by assumption) ?_
                rotate_left
                · (intro wq hSw; (try dsimp only at hSw); go_simp; try with_reducible rfl)
                try simp only [Act.put, List.getElem_toArray, List.getElem_cons_succ, List.getElem_cons_zero, List.setIfInBounds_toArray, List.set_cons_zero, List.set_cons_succ]
                refine wpAnyH_take (i := 4) (v := ?_) rfl (by kernel_rfl) (by kernel_rfl) (by kernel_rfl) (fun _ _ _ h => h) (Or.inl ⟨by rfl, ?_⟩) (by assumption) ?_
                rotate_left
                · (intro wq hSw; (try dsimp only at hSw); go_simp; try with_reducible rfl)
                try simp only [Act.put, List.getElem_toArray, List.getElem_cons_succ, List.getElem_cons_zero, List.setIfInBounds_toArray, List.set_cons_zero, List.set_cons_succ]
                refine wpAnyH_take (i := 5) (v := ?_) rfl (by kernel_rfl) (by kernel_rfl) (by kernel_rfl) (fun _ _ _ h => h) (Or.inl ⟨by rfl, ?_⟩) (by assumption) ?_
                rotate_left
                · (intro wq hSw; (try dsimp only at hSw); go_simp; try with_reducible rfl)
                try simp only [Act.put, List.getElem_toArray, List.getElem_cons_succ, List.getElem_cons_zero, List.setIfInBounds_toArray, List.set_cons_zero, List.set_cons_succ]
                refine wpAnyH_take (i := 6) (v := ?_) rfl (by kernel_rfl) (by kernel_rfl) (by kernel_rfl) (fun _ _ _ h => h) (Or.inl ⟨by rfl, ?_⟩) (by assumption) ?_
                rotate_left
                · (intro wq hSw; (try dsimp only at hSw); go_simp; try with_reducible rfl)
                try simp only [Act.put, List.getElem_toArray, List.getElem_cons_succ, List.getElem_cons_zero, List.setIfInBounds_toArray, List.set_cons_zero, List.set_cons_succ]
                refine wpAnyH_take (i := 7) (v := ?_) rfl (by kernel_rfl) (by kernel_rfl) (by kernel_rfl) (fun _ _ _ h => h) (Or.inl ⟨by rfl, ?_⟩) (by assumption) ?_
                rotate_left
                · (intro wq hSw; (try dsimp only at hSw); go_simp; try with_reducible rfl)
                try simp only [Act.put, List.getElem_toArray, List.getElem_cons_succ, List.getElem_cons_zero, List.setIfInBounds_toArray, List.set_cons_zero, List.set_cons_succ]
                refine wpAnyH_take (i := 8) (v := (.agg #[.int .i32 z.r, .int .i32 z.m0, .int .i32 z.m1, .int .i32 z.m2, .int .i64 z.w, .int .i64 z.p.f.k, .int .u8 z.p.f.i, .int .u8 z.p.f.r, .int .u8 z.p.f.g, .int .u8 z.p.f.b, .int .i64 z.p.b.k, .int .u8 z.p.b.i, .int .u8 z.p.b.r, .int .u8 z.p.b.g, .int .u8 z.p.b.b, .int .u8 z.p.fl])) rfl (by kernel_rfl) (by kernel_rfl) (by kernel_rfl) (fun _ _ _ h => h) (yieldsIf_load_mid (by rfl) 30 _ rfl b (o + k * 16) rfl (kcL z) _ (fun _ h => h.1) Tryd.underlying30 rfl (by kernel_rfl)) (by assumption) ?_
                try simp only [Act.put, List.getElem_toArray, List.getElem_cons_succ, List.getElem_cons_zero, List.setIfInBounds_toArray, List.set_cons_zero, List.set_cons_succ]
                refine wpAnyH_take (i := 9) (v := ?_) rfl (by kernel_rfl) (by kernel_rfl) (by kernel_rfl) (fun _ _ _ h => h) (Or.inl ⟨by rfl, ?_⟩) (by assumption) ?_
                rotate_left
                · (intro wq hSw; (try dsimp only at hSw); go_simp; try with_reducible rfl)
                try simp only [Act.put, List.getElem_toArray, List.getElem_cons_succ, List.getElem_cons_zero, List.setIfInBounds_toArray, List.set_cons_zero, List.set_cons_succ]
                refine wpAnyH_take (i := 10) (v := ?_) rfl (by kernel_rfl) (by kernel_rfl) (by kernel_rfl) (fun _ _ _ h => h) (Or.inl ⟨by rfl, ?_⟩) (by assumption) ?_
                rotate_left
                · (intro wq hSw; (try dsimp only at hSw); go_simp; try with_reducible rfl)
                try simp only [Act.put, List.getElem_toArray, List.getElem_cons_succ, List.getElem_cons_zero, List.setIfInBounds_toArray, List.set_cons_zero, List.set_cons_succ]
                refine wpAnyH_take (i := 11) (v := ?_) rfl (by kernel_rfl) (by kernel_rfl) (by kernel_rfl) (fun _ _ _ h => h) (Or.inl ⟨by rfl, ?_⟩) (by assumption) ?_
                rotate_left
                · (intro wq hSw; (try dsimp only at hSw); go_simp; try with_reducible rfl)
                try simp only [Act.put, List.getElem_toArray, List.getElem_cons_succ, List.getElem_cons_zero, List.setIfInBounds_toArray, List.set_cons_zero, List.set_cons_succ]
                refine wpAnyH_take (i := 12) (v := (.agg #[.int .i32 x.r, .int .i32 x.m0, .int .i32 x.m1, .int .i32 x.m2, .int .i64 x.w, .int .i64 x.p.f.k, .int .u8 x.p.f.i, .int .u8 x.p.f.r, .int .u8 x.p.f.g, .int .u8 x.p.f.b, .int .i64 x.p.b.k, .int .u8 x.p.b.i, .int .u8 x.p.b.r, .int .u8 x.p.b.g, .int .u8 x.p.b.b, .int .u8 x.p.fl])) rfl (by kernel_rfl) (by kernel_rfl) (by kernel_rfl) (fun _ _ _ h => h) (yieldsIf_load_mid (by rfl) 30 _ rfl b (o + i * 16) rfl (kcL x) _ (fun _ h => h.2) Tryd.underlying30 rfl (by kernel_rfl)) (by assumption) ?_
                try simp only [Act.put, List.getElem_toArray, List.getElem_cons_succ, List.getElem_cons_zero, List.setIfInBounds_toArray, List.set_cons_zero, List.set_cons_succ]
                refine wpAnyH_take (i := 13) (v := ?_) rfl (by kernel_rfl) (by kernel_rfl) (by kernel_rfl) (fun _ _ _ h => h) (Or.inl ⟨by rfl, ?_⟩) (by assumption) ?_
                rotate_left
                · (intro wq hSw; (try dsimp only at hSw); go_simp; try with_reducible rfl)
                try simp only [Act.put, List.getElem_toArray, List.getElem_cons_succ, List.getElem_cons_zero, List.setIfInBounds_toArray, List.set_cons_zero, List.set_cons_succ]
                refine wpAnyH_take (i := 14) (v := ?_) rfl (by kernel_rfl) (by kernel_rfl) (by kernel_rfl) (fun _ _ _ h => h) (Or.inl ⟨by rfl, ?_⟩) (by assumption) ?_
                rotate_left
                · (intro wq hSw; (try dsimp only at hSw); go_simp; try with_reducible rfl)
                try simp only [Act.put, List.getElem_toArray, List.getElem_cons_succ, List.getElem_cons_zero, List.setIfInBounds_toArray, List.set_cons_zero, List.set_cons_succ]
                refine wpAnyH_done (by kernel_rfl) ?_ _
                go_wp2_with fail
                go_roundg (n - (k + 1))
                case measure => omega
                case rel => exact ⟨k + 1, by push_cast; rfl, by omega, by omega, Nat.le_refl _, hide (hnx.out hzx.out), hide (hok.out.kept (Kept.refl [] wr).drew (by simp)), hkk.drew⟩
              · have hq : ∀ w, (binOp .eql 30 (.agg #[.int .i32 z.r, .int .i32 z.m0, .int .i32 z.m1, .int .i32 z.m2, .int .i64 z.w, .int .i64 z.p.f.k, .int .u8 z.p.f.i, .int .u8 z.p.f.r, .int .u8 z.p.f.g, .int .u8 z.p.f.b, .int .i64 z.p.b.k, .int .u8 z.p.b.i, .int .u8 z.p.b.r, .int .u8 z.p.b.g, .int .u8 z.p.b.b, .int .u8 z.p.fl]) (.agg #[.int .i32 x.r, .int .i32 x.m0, .int .i32 x.m1, .int .i32 x.m2, .int .i64 x.w, .int .i64 x.p.f.k, .int .u8 x.p.f.i, .int .u8 x.p.f.r, .int .u8 x.p.f.g, .int .u8 x.p.f.b, .int .i64 x.p.b.k, .int .u8 x.p.b.i, .int .u8 x.p.b.r, .int .u8 x.p.b.g, .int .u8 x.p.b.b, .int .u8 x.p.fl])).run Tryd.prog w = .ok (.bool false) w := fun w => (eql_K z x w).trans (by rw [decide_eq_false hzx0])
                have hne : ∀ y, l[k]? = some y → y ≠ x := by rw [hyk.out]; intro y hy; injection hy with hy; rw [← hy]; exact hzx0
                have hik2 : i < k := by
                  rcases Nat.lt_or_eq_of_le hik with h | h
                  · exact h
                  · exfalso
                    have h1 := hxi.out
                    rw [h, hyk.out] at h1
                    injection h1 with h1
                    exact hzx0 h1
                clear hzx0 hnx
                go_upto_region 9 with fail
                refine wp_region_held_drew (S := (fun w' => CelR w' b (o + k * 16) z ∧ CelR w' b (o + i * 16) x)) (by kernel_rfl) ?_ (fun hHeld => ?_)
                · (try dsimp only); (exact ⟨ra.kept (Kept.refl [] wr).drew (by simp), rb.kept (Kept.refl [] wr).drew (by simp)⟩)
                refine wpAnyH_take (i := 0) (v := ?_) rfl (by kernel_rfl) (by kernel_rfl) (by kernel_rfl) (fun _ _ _ h => h) (Or.inl ⟨by rfl, ?_⟩) (by assumption) ?_
                rotate_left
                · (intro wq hSw; (try dsimp only at hSw); go_simp; try with_reducible rfl)
                try simp only [Act.put, List.getElem_toArray, List.getElem_cons_zero, List.setIfInBounds_toArray, List.set_cons_zero, List.set_cons_succ]
                refine wpAnyH_take (i := 1) (v := ?_) rfl (by kernel_rfl) (by kernel_rfl) (by kernel_rfl) (fun _ _ _ h => h) (Or.inl ⟨by rfl, ?_⟩) (by assumption) ?_
                rotate_left
                · (intro wq hSw; (try dsimp only at hSw); go_simp; try with_reducible rfl)
                try simp only [Act.put, List.getElem_toArray, List.getElem_cons_succ, List.getElem_cons_zero, List.setIfInBounds_toArray, List.set_cons_zero, List.set_cons_succ]
                refine wpAnyH_take (i := 2) (v := ?_) rfl (by kernel_rfl) (by kernel_rfl) (by kernel_rfl) (fun _ _ _ h => h) (Or.inl ⟨by rfl, ?_⟩) (by assumption) ?_
                rotate_left
                · (intro wq hSw; (try dsimp only at hSw); go_simp; try with_reducible rfl)
                try simp only [Act.put, List.getElem_toArray, List.getElem_cons_succ, List.getElem_cons_zero, List.setIfInBounds_toArray, List.set_cons_zero, List.set_cons_succ]
                refine wpAnyH_take (i := 3) (v := ?_) rfl (by kernel_rfl) (by kernel_rfl) (by kernel_rfl) (fun _ _ _ h => h) (Or.inl ⟨by rfl, ?_⟩) (by assumption) ?_
                rotate_left
                · (intro wq hSw; (try dsimp only at hSw); go_simp; try with_reducible rfl)
                try simp only [Act.put, List.getElem_toArray, List.getElem_cons_succ, List.getElem_cons_zero, List.setIfInBounds_toArray, List.set_cons_zero, List.set_cons_succ]
                refine wpAnyH_take (i := 4) (v := ?_) rfl (by kernel_rfl) (by kernel_rfl) (by kernel_rfl) (fun _ _ _ h => h) (Or.inl ⟨by rfl, ?_⟩) (by assumption) ?_
                rotate_left
                · (intro wq hSw; (try dsimp only at hSw); go_simp; try with_reducible rfl)
                try simp only [Act.put, List.getElem_toArray, List.getElem_cons_succ, List.getElem_cons_zero, List.setIfInBounds_toArray, List.set_cons_zero, List.set_cons_succ]
                refine wpAnyH_take (i := 5) (v := ?_) rfl (by kernel_rfl) (by kernel_rfl) (by kernel_rfl) (fun _ _ _ h => h) (Or.inl ⟨by rfl, ?_⟩) (by assumption) ?_
                rotate_left
                · (intro wq hSw; (try dsimp only at hSw); go_simp; try with_reducible rfl)
                try simp only [Act.put, List.getElem_toArray, List.getElem_cons_succ, List.getElem_cons_zero, List.setIfInBounds_toArray, List.set_cons_zero, List.set_cons_succ]
                refine wpAnyH_take (i := 6) (v := ?_) rfl (by kernel_rfl) (by kernel_rfl) (by kernel_rfl) (fun _ _ _ h => h) (Or.inl ⟨by rfl, ?_⟩) (by assumption) ?_
                rotate_left
                · (intro wq hSw; (try dsimp only at hSw); go_simp; try with_reducible rfl)
                try simp only [Act.put, List.getElem_toArray, List.getElem_cons_succ, List.getElem_cons_zero, List.setIfInBounds_toArray, List.set_cons_zero, List.set_cons_succ]
                refine wpAnyH_take (i := 7) (v := ?_) rfl (by kernel_rfl) (by kernel_rfl) (by kernel_rfl) (fun _ _ _ h => h) (Or.inl ⟨by rfl, ?_⟩) (by assumption) ?_
                rotate_left
                · (intro wq hSw; (try dsimp only at hSw); go_simp; try with_reducible rfl)
                try simp only [Act.put, List.getElem_toArray, List.getElem_cons_succ, List.getElem_cons_zero, List.setIfInBounds_toArray, List.set_cons_zero, List.set_cons_succ]
                refine wpAnyH_take (i := 8) (v := (.agg #[.int .i32 z.r, .int .i32 z.m0, .int .i32 z.m1, .int .i32 z.m2, .int .i64 z.w, .int .i64 z.p.f.k, .int .u8 z.p.f.i, .int .u8 z.p.f.r, .int .u8 z.p.f.g, .int .u8 z.p.f.b, .int .i64 z.p.b.k, .int .u8 z.p.b.i, .int .u8 z.p.b.r, .int .u8 z.p.b.g, .int .u8 z.p.b.b, .int .u8 z.p.fl])) rfl (by kernel_rfl) (by kernel_rfl) (by kernel_rfl) (fun _ _ _ h => h) (yieldsIf_load_mid (by rfl) 30 _ rfl b (o + k * 16) rfl (kcL z) _ (fun _ h => h.1) Tryd.underlying30 rfl (by kernel_rfl)) (by assumption) ?_
                try simp only [Act.put, List.getElem_toArray, List.getElem_cons_succ, List.getElem_cons_zero, List.setIfInBounds_toArray, List.set_cons_zero, List.set_cons_succ]
                refine wpAnyH_take (i := 9) (v := ?_) rfl (by kernel_rfl) (by kernel_rfl) (by kernel_rfl) (fun _ _ _ h => h) (Or.inl ⟨by rfl, ?_⟩) (by assumption) ?_
                rotate_left
                · (intro wq hSw; (try dsimp only at hSw); go_simp; try with_reducible rfl)
                try simp only [Act.put, List.getElem_toArray, List.getElem_cons_succ, List.getElem_cons_zero, List.setIfInBounds_toArray, List.set_cons_zero, List.set_cons_succ]
                refine wpAnyH_take (i := 10) (v := ?_) rfl (by kernel_rfl) (by kernel_rfl) (by kernel_rfl) (fun _ _ _ h => h) (Or.inl ⟨by rfl, ?_⟩) (by assumption) ?_
                rotate_left
                · (intro wq hSw; (try dsimp only at hSw); go_simp; try with_reducible rfl)
                try simp only [Act.put, List.getElem_toArray, List.getElem_cons_succ, List.getElem_cons_zero, List.setIfInBounds_toArray, List.set_cons_zero, List.set_cons_succ]
                refine wpAnyH_take (i := 11) (v := ?_) rfl (by kernel_rfl) (by kernel_rfl) (by kernel_rfl) (fun _ _ _ h => h) (Or.inl ⟨by rfl, ?_⟩) (by assumption) ?_
                rotate_left
                · (intro wq hSw; (try dsimp only at hSw); go_simp; try with_reducible rfl)
                try simp only [Act.put, List.getElem_toArray, List.getElem_cons_succ, List.getElem_cons_zero, List.setIfInBounds_toArray, List.set_cons_zero, List.set_cons_succ]
                refine wpAnyH_take (i := 12) (v := (.agg #[.int .i32 x.r, .int .i32 x.m0, .int .i32 x.m1, .int .i32 x.m2, .int .i64 x.w, .int .i64 x.p.f.k, .int .u8 x.p.f.i, .int .u8 x.p.f.r, .int .u8 x.p.f.g, .int .u8 x.p.f.b, .int .i64 x.p.b.k, .int .u8 x.p.b.i, .int .u8 x.p.b.r, .int .u8 x.p.b.g, .int .u8 x.p.b.b, .int .u8 x.p.fl])) rfl (by kernel_rfl) (by kernel_rfl) (by kernel_rfl) (fun _ _ _ h => h) (yieldsIf_load_mid (by rfl) 30 _ rfl b (o + i * 16) rfl (kcL x) _ (fun _ h => h.2) Tryd.underlying30 rfl (by kernel_rfl)) (by assumption) ?_
                try simp only [Act.put, List.getElem_toArray, List.getElem_cons_succ, List.getElem_cons_zero, List.setIfInBounds_toArray, List.set_cons_zero, List.set_cons_succ]
                refine wpAnyH_take (i := 13) (v := ?_) rfl (by kernel_rfl) (by kernel_rfl) (by kernel_rfl) (fun _ _ _ h => h) (Or.inl ⟨by rfl, ?_⟩) (by assumption) ?_
                rotate_left
                · (intro wq hSw; (try dsimp only at hSw); go_simp; try with_reducible rfl)
                try simp only [Act.put, List.getElem_toArray, List.getElem_cons_succ, List.getElem_cons_zero, List.setIfInBounds_toArray, List.set_cons_zero, List.set_cons_succ]
                refine wpAnyH_take (i := 14) (v := ?_) rfl (by kernel_rfl) (by kernel_rfl) (by kernel_rfl) (fun _ _ _ h => h) (Or.inl ⟨by rfl, ?_⟩) (by assumption) ?_
                rotate_left
                · (intro wq hSw; (try dsimp only at hSw); go_simp; try with_reducible rfl)
                try simp only [Act.put, List.getElem_toArray, List.getElem_cons_succ, List.getElem_cons_zero, List.setIfInBounds_toArray, List.set_cons_zero, List.set_cons_succ]
                refine wpAnyH_done (by kernel_rfl) ?_ _
                clear hHeld ra rb
                have hgn := hide (group_next (l := l) (by omega) hT.out hvx hBB.out hxB (hlx.out hvx) hv.out hne)
                have hW := hide (fun w1 => rWords_any x hvx hxB w1)
                have hkd := hkk.drew
                have hod := hide (hok.out.kept (Kept.refl [] wr).drew (by simp))
                have ri := ((hH.out.celAt hxi.out).kept hkd (by simp))
                clear hok hkk hT
                generalize wordsC x = y at *
                go_wp2_with (refine wpList_load_cel rfl rfl b (o + i * 16) rfl ri ?_)
                refine (hW.out _).mono ?_
                rintro e w6 ⟨rfl, hj6⟩
                have hk6 := hkd.trans hj6 (by simp)
                have ho6 := hide ((hod.out.kept hj6 (by simp)).kept ((Kept.refl [] w6).alloc (.cells #[.int .i64 ((k : Int) - i), .int .u64 y.a, .int .u64 y.b, .int .u64 y.c] 67)) (by simp))
                have hr6 : Hid (Rd (w6.alloc (.cells #[.int .i64 ((k : Int) - i), .int .u64 y.a, .int .u64 y.b, .int .u64 y.c] 67)) (some ⟨w6.heap.size, 0, none⟩) 1 4 (runsV [⟨(k : Int) - i, y⟩])) := hide (Rd.ofBlock rowRun (heap_alloc_new w6 _) rfl)
                have hs6 := hk6.size
                clear ri hod hj6 hW
                go_wp2_with (at_builtin; refine wpList_app ?_ rfl elRun rfl rfl ho6.out rfl hr6.out (rowsV_oneCell rowRun _) ?o2 ?o3; intro a7 c7 w7 ho7 hk7 hat7)
                case o2 => omega
                case o3 => simp; omega
                go_roundg (n - k)
                case measure => omega
                case rel =>
                  refine ⟨k, a7, n' + 1, c7, rfl, rfl, by omega, Nat.le_refl _, by omega, hide ?_, hide hgn.out.2.1, hide hgn.out.2.2, ?_⟩
                  · rw [hgn.out.1]
                    rw [show runsV (packL (l.take i) ++ [⟨(k : Int) - i, y⟩]) = runsV (packL (l.take i)) ++ runsV [⟨(k : Int) - i, y⟩] from rowsV_app _ _]
                    exact ho7
                  · exact (hk6.alloc _).own hk7 (fun g hg => (ho6.out.ge g hg).1)
            · obtain rfl : k = n := by omega
              have hne : ∀ y, l[k]? = some y → y ≠ x := by
                intro y hy
                rw [List.getElem?_eq_none (by rw [hl.out]; exact Nat.le_refl _)] at hy
                cases hy
              go_upto_region 9 with fail
              refine wp_region_held_drew (S := (fun w' => True)) (by kernel_rfl) ?_ (fun hHeld => ?_)
              · (try dsimp only); (first | done | exact trivial)
              refine wpAnyH_take (i := 0) (v := ?_) rfl (by kernel_rfl) (by kernel_rfl) (by kernel_rfl) (fun _ _ _ h => h) (Or.inl ⟨by rfl, ?_⟩) (by assumption) ?_
              rotate_left
              · (intro wq hSw; (try dsimp only at hSw); go_simp; try with_reducible rfl)
              try simp only [Act.put, List.getElem_toArray, List.getElem_cons_zero, List.setIfInBounds_toArray, List.set_cons_zero, List.set_cons_succ]
              refine wpAnyH_take (i := 1) (v := ?_) rfl (by kernel_rfl) (by kernel_rfl) (by kernel_rfl) (fun _ _ _ h => h) (Or.inl ⟨by rfl, ?_⟩) (by assumption) ?_
              rotate_left
              · (intro wq hSw; (try dsimp only at hSw); go_simp; try with_reducible rfl)
              try simp only [Act.put, List.getElem_toArray, List.getElem_cons_succ, List.getElem_cons_zero, List.setIfInBounds_toArray, List.set_cons_zero, List.set_cons_succ]
              refine wpAnyH_take (i := 2) (v := ?_) rfl (by kernel_rfl) (by kernel_rfl) (by kernel_rfl) (fun _ _ _ h => h) (Or.inl ⟨by rfl, ?_⟩) (by assumption) ?_
              rotate_left
              · (intro wq hSw; (try dsimp only at hSw); go_simp; try with_reducible rfl)
              try simp only [Act.put, List.getElem_toArray, List.getElem_cons_succ, List.getElem_cons_zero, List.setIfInBounds_toArray, List.set_cons_zero, List.set_cons_succ]
              refine wpAnyH_take (i := 3) (v := ?_) rfl (by kernel_rfl) (by kernel_rfl) (by kernel_rfl) (fun _ _ _ h => h) (Or.inl ⟨by rfl, ?_⟩) (by assumption) ?_
              rotate_left
              · (intro wq hSw; (try dsimp only at hSw); go_simp; try with_reducible rfl)
              try simp only [Act.put, List.getElem_toArray, List.getElem_cons_succ, List.getElem_cons_zero, List.setIfInBounds_toArray, List.set_cons_zero, List.set_cons_succ]
              refine wpAnyH_take (i := 4) (v := ?_) rfl (by kernel_rfl) (by kernel_rfl) (by kernel_rfl) (fun _ _ _ h => h) (Or.inl ⟨by rfl, ?_⟩) (by assumption) ?_
              rotate_left
              · (intro wq hSw; (try dsimp only at hSw); go_simp; try with_reducible rfl)
              try simp only [Act.put, List.getElem_toArray, List.getElem_cons_succ, List.getElem_cons_zero, List.setIfInBounds_toArray, List.set_cons_zero, List.set_cons_succ]
              refine wpAnyH_take (i := 5) (v := undef) rfl (by kernel_rfl) (by kernel_rfl) (by kernel_rfl) (fun _ _ _ h => h) (Or.inr ⟨by rfl, rfl⟩) (by assumption) ?_
              try simp only [Act.put, List.getElem_toArray, List.getElem_cons_succ, List.getElem_cons_zero, List.setIfInBounds_toArray, List.set_cons_zero, List.set_cons_succ]
              refine wpAnyH_take (i := 6) (v := undef) rfl (by kernel_rfl) (by kernel_rfl) (by kernel_rfl) (fun _ _ _ h => h) (Or.inr ⟨by rfl, rfl⟩) (by assumption) ?_
              try simp only [Act.put, List.getElem_toArray, List.getElem_cons_succ, List.getElem_cons_zero, List.setIfInBounds_toArray, List.set_cons_zero, List.set_cons_succ]
              refine wpAnyH_take (i := 7) (v := undef) rfl (by kernel_rfl) (by kernel_rfl) (by kernel_rfl) (fun _ _ _ h => h) (Or.inr ⟨by rfl, rfl⟩) (by assumption) ?_
              try simp only [Act.put, List.getElem_toArray, List.getElem_cons_succ, List.getElem_cons_zero, List.setIfInBounds_toArray, List.set_cons_zero, List.set_cons_succ]
              refine wpAnyH_take (i := 8) (v := undef) rfl (by kernel_rfl) (by kernel_rfl) (by kernel_rfl) (fun _ _ _ h => h) (Or.inr ⟨by rfl, rfl⟩) (by assumption) ?_
              try simp only [Act.put, List.getElem_toArray, List.getElem_cons_succ, List.getElem_cons_zero, List.setIfInBounds_toArray, List.set_cons_zero, List.set_cons_succ]
              refine wpAnyH_take (i := 9) (v := undef) rfl (by kernel_rfl) (by kernel_rfl) (by kernel_rfl) (fun _ _ _ h => h) (Or.inr ⟨by rfl, rfl⟩) (by assumption) ?_
              try simp only [Act.put, List.getElem_toArray, List.getElem_cons_succ, List.getElem_cons_zero, List.setIfInBounds_toArray, List.set_cons_zero, List.set_cons_succ]
              refine wpAnyH_take (i := 10) (v := undef) rfl (by kernel_rfl) (by kernel_rfl) (by kernel_rfl) (fun _ _ _ h => h) (Or.inr ⟨by rfl, rfl⟩) (by assumption) ?_
              try simp only [Act.put, List.getElem_toArray, List.getElem_cons_succ, List.getElem_cons_zero, List.setIfInBounds_toArray, List.set_cons_zero, List.set_cons_succ]
              refine wpAnyH_take (i := 11) (v := undef) rfl (by kernel_rfl) (by kernel_rfl) (by kernel_rfl) (fun _ _ _ h => h) (Or.inr ⟨by rfl, rfl⟩) (by assumption) ?_
              try simp only [Act.put, List.getElem_toArray, List.getElem_cons_succ, List.getElem_cons_zero, List.setIfInBounds_toArray, List.set_cons_zero, List.set_cons_succ]
              refine wpAnyH_take (i := 12) (v := undef) rfl (by kernel_rfl) (by kernel_rfl) (by kernel_rfl) (fun _ _ _ h => h) (Or.inr ⟨by rfl, rfl⟩) (by assumption) ?_
              try simp only [Act.put, List.getElem_toArray, List.getElem_cons_succ, List.getElem_cons_zero, List.setIfInBounds_toArray, List.set_cons_zero, List.set_cons_succ]
              refine wpAnyH_take (i := 13) (v := undef) rfl (by kernel_rfl) (by kernel_rfl) (by kernel_rfl) (fun _ _ _ h => h) (Or.inr ⟨by rfl, rfl⟩) (by assumption) ?_
              try simp only [Act.put, List.getElem_toArray, List.getElem_cons_succ, List.getElem_cons_zero, List.setIfInBounds_toArray, List.set_cons_zero, List.set_cons_succ]
              refine wpAnyH_take (i := 14) (v := ?_) rfl (by kernel_rfl) (by kernel_rfl) (by kernel_rfl) (fun _ _ _ h => h) (Or.inl ⟨by rfl, ?_⟩) (by assumption) ?_
              rotate_left
              · (intro wq hSw; (try dsimp only at hSw); go_simp; try with_reducible rfl)
              try simp only [Act.put, List.getElem_toArray, List.getElem_cons_succ, List.getElem_cons_zero, List.setIfInBounds_toArray, List.set_cons_zero, List.set_cons_succ]
              refine wpAnyH_done (by kernel_rfl) ?_ _
              have hgn := hide (group_next (l := l) (by omega) hT.out hvx hBB.out hxB (hlx.out hvx) hv.out hne)
              have hW := hide (fun w1 => rWords_any x hvx hxB w1)
              have hkd := hkk.drew
              have hod := hide (hok.out.kept (Kept.refl [] wr).drew (by simp))
              have ri := ((hH.out.celAt hxi.out).kept hkd (by simp))
              clear hok hkk hT
              generalize wordsC x = y at *
              go_wp2_with (refine wpList_load_cel rfl rfl b (o + i * 16) rfl ri ?_)
              refine (hW.out _).mono ?_
              rintro e w6 ⟨rfl, hj6⟩
              have hk6 := hkd.trans hj6 (by simp)
              have ho6 := hide ((hod.out.kept hj6 (by simp)).kept ((Kept.refl [] w6).alloc (.cells #[.int .i64 ((k : Int) - i), .int .u64 y.a, .int .u64 y.b, .int .u64 y.c] 67)) (by simp))
              have hr6 : Hid (Rd (w6.alloc (.cells #[.int .i64 ((k : Int) - i), .int .u64 y.a, .int .u64 y.b, .int .u64 y.c] 67)) (some ⟨w6.heap.size, 0, none⟩) 1 4 (runsV [⟨(k : Int) - i, y⟩])) := hide (Rd.ofBlock rowRun (heap_alloc_new w6 _) rfl)
              have hs6 := hk6.size
              clear ri hod hj6 hW
              go_wp2_with (at_builtin; refine wpList_app ?_ rfl elRun rfl rfl ho6.out rfl hr6.out (rowsV_oneCell rowRun _) ?o2 ?o3; intro a7 c7 w7 ho7 hk7 hat7)
              case o2 => omega
              case o3 => simp; omega
              go_roundg (k - k)
              case measure => omega
              case rel =>
                refine ⟨k, a7, n' + 1, c7, rfl, rfl, by omega, Nat.le_refl _, by omega, hide ?_, hide hgn.out.2.1, hide hgn.out.2.2, ?_⟩
                · rw [hgn.out.1]
                  rw [show runsV (packL (l.take i) ++ [⟨(k : Int) - i, y⟩]) = runsV (packL (l.take i)) ++ runsV [⟨(k : Int) - i, y⟩] from rowsV_app _ _]
                  exact ho7
                · exact (hk6.alloc _).own hk7 (fun g hg => (ho6.out.ge g hg).1)
      · obtain rfl : i = n := by omega
        go_wp2_with fail
        go_ret2
        have e : l.take i = l := List.take_of_length_le (Nat.le_of_eq hl.out)
        rw [e] at ho hv
        refine ⟨a', n', c', ?_, ?_, hkr⟩
        · rw [hP2.out, if_pos hv.out]; rfl
        · rw [hP2.out, if_pos hv.out]; exact ho.out
end Go.Proofs.YtpdjlollijbdeaaDoor
