/- The law SheetPlays. -/
import Derived.Test.YtpeedjknjjbabaaDoorShDoes2
namespace Go.Proofs.YtpeedjknjjbabaaDoor
open Go.RowKit
set_option linter.unusedVariables false
set_option linter.unusedSimpArgs false
set_option maxRecDepth 100000

theorem does_any (w0 w : World) (b : Nat) (s : Sh) (B : List Nat) (a : Option Addr) (n c : Nat) (vs : List LnA) (h : Hs w0 w b s B a n c vs s.ls) (hw2 : 2 ≤ w0.heap.size) (u : AcA) (l : List Cl) (hr : Rd w u.a u.n 16 (cellsV l)) (hun : u.n ≤ 20) :
    Calls Tryd.prog 11 #[.pointer (some ⟨b, 0, none⟩), .agg #[.int .i64 (s.places : Nat), .int .i64 (s.gone : Nat), .slice a n c], .agg #[.int .i64 u.wh, .int .i64 u.nm, .slice u.a u.n u.c, .bool u.s]] w (DoesRet w0 w B a n vs) := by
  by_cases h0 : u.wh = 0
  · exact doesPush w0 w b s B a n c vs h hw2 u l hr hun h0
  by_cases h1 : u.wh = 1
  · exact doesSet w0 w b s B a n c vs h hw2 u l hr hun h1
  by_cases h2 : u.wh = 2
  · exact doesDrop w0 w b s B a n c vs h hw2 u l hr hun h2
  by_cases h3 : u.wh = 3
  · exact doesPop w0 w b s B a n c vs h hw2 u l hr hun h3
  exact doesCopy w0 w b s B a n c vs h hw2 u l hr hun ⟨h0, h1, h2, h3⟩
/-- Whether there are at most 40 calls with lines of at most 20 cells. -/
def FewRet (N : Nat) (us : List AcA) (w : World) (e : Ending) (w' : World) : Prop := ∃ v : Bool, e = .returned (.bool v) ∧ (v = true → N ≤ 40 ∧ ∀ u ∈ us, u.n ≤ 20) ∧ Kept [] w w'
set_option maxHeartbeats 4000000 in
theorem few_any (a1 : Option Addr) (N cN : Nat) (us : List AcA) (w : World) (hr : Rd w a1 N 4 (rowsV acV us)) :
    Calls Tryd.prog 10 #[.slice a1 N cN] w (FewRet N us w) := by
  have hul := hide (hr.rowLen rowAc)
  have hR := hide hr
  clear hr
  go_enter Tryd.func10, Tryd.ntmps10
  go_wp2_with fail
  go_loopg [3, 4, 5, 6, 7, 8, 9, 10, 11, 12, 13, 14, 15, 16, 17, 18, 19, 20, 21] 41 (fun kx s3 s4 s5 s6 s7 s8 s9 s10 s11 s12 s13 s14 s15 s16 s17 s18 s19 s20 s21 wr => ∃ k : Nat, s3 = .int .i64 k ∧ k ≤ N ∧ k ≤ 41 ∧ 41 - k ≤ kx ∧ Hid (∀ j (h : j < us.length), j < k → us[j].n ≤ 20) ∧ Kept [] w wr)
  case atStart => exact ⟨0, rfl, Nat.zero_le _, by decide, by omega, hide (fun j _ h => by omega), Kept.refl _ _⟩
  case round =>
    obtain ⟨k, rfl, hkN, hk41, hg, hall, hkr⟩ := hrel
    by_cases hlt : k < N
    · have hkn : (k : Int) < (N : Int) := by omega
      by_cases h41 : k < 41
      · have hk4 : (k : Int) < 41 := by omega
        have hku : k < us.length := by rw [hul.out]; exact hlt
        obtain ⟨g, o, rfl⟩ := hR.out.rowAddr rowAc (by omega)
        have hrow := (hR.out.kept hkr (by simp)).row rowAc k hku
        have r2 := hrow 2 _ rfl
        have hnx := hide (fun (hn : us[k].n ≤ 20) j (h : j < us.length) (hj : j < k + 1) => (by
          by_cases e : j = k
          · subst e; exact hn
          · exact hall.out j h (by omega) : us[j].n ≤ 20))
        have hmem := hide (List.getElem_mem hku)
        clear hrow
        have t4 : IntKind.i64.wrap ((k : Int) + 1) = (k : Int) + 1 := by rw [IntKind.wrap_i64]; omega
        generalize us[k] = u at *
        by_cases h20 : (u.n : Int) > 20
        · go_wp2_with fail
          go_ret
          exact ⟨false, rfl, fun h => (by cases h), hkr⟩
        · go_wp2_with fail
          go_roundg (41 - (k + 1))
          case measure => omega
          case rel => exact ⟨k + 1, by push_cast; rfl, by omega, by omega, Nat.le_refl _, hide (hnx.out (by omega)), hkr⟩
      · obtain rfl : k = 41 := by omega
        have hN40 : ¬ ((N : Int) ≤ 40) := by omega
        go_wp2_with fail
        go_ret
        exact ⟨_, rfl, fun h => (by simp at h; try omega), hkr⟩
    · obtain rfl : k = N := by omega
      by_cases h40 : (k : Int) ≤ 40
      · go_wp2_with fail
        go_ret
        exact ⟨_, rfl, fun _ => ⟨by omega, fun u hu => by obtain ⟨j, h1, h2⟩ := List.getElem_of_mem hu; rw [← h2]; exact hall.out j h1 (by rw [← hul.out]; exact h1)⟩, hkr⟩
      · go_wp2_with fail
        go_ret
        exact ⟨_, rfl, fun h => (by simp at h; try omega), hkr⟩

set_option maxHeartbeats 20000000 in
theorem sheetPlays_any (hkn : KnownIs) (k1 : Int) (a1 : Option Addr) (N cN : Nat) (us : List AcA) (w : World) (hr : Rd w a1 N 4 (rowsV acV us)) (hus : ∀ u ∈ us, ∃ l, Rd w u.a u.n 16 (cellsV l)) (ht : Tabs w) :
    Calls Tryd.prog 3 #[.int .i64 k1, .slice a1 N cN] w fun e w' => e = .returned (.bool true) ∧ Kept [] w w' := by
  have hkn0 := hide (fun w1 (hk : Kept [] w w1) => hkn.at (ht.kept hk))
  have hw2 := hide (tabs_lt ht)
  have ht0 := hide ht
  have hR := hide hr
  have hU := hide hus
  have hul := hide (hr.rowLen rowAc)
  clear ht hr hus
  by_cases hin : 1 ≤ k1 ∧ k1 ≤ 1024
  · obtain ⟨P, rfl⟩ : ∃ P : Nat, k1 = P := ⟨k1.toNat, by omega⟩
    have hlo : ¬ ((P : Int) < 1) := by omega
    have hhi : ¬ ((P : Int) > 1024) := by omega
    have hpp : ∀ (b : Nat) w1, (binOp .eql 25 (.pointer (some ⟨b, 0, none⟩)) (.pointer none)).run Tryd.prog w1 = .ok (.bool false) w1 := fun b w1 => by kernel_rfl
    have hpq : ∀ (b : Nat) w1, (binOp .neq 25 (.pointer (some ⟨b, 0, none⟩)) (.pointer none)).run Tryd.prog w1 = .ok (.bool true) w1 := fun b w1 => by kernel_rfl
    go_enter Tryd.func3, Tryd.ntmps3
    go_wp2_with fail
    refine (NewS_any (P : Int) w).mono ?_
    rintro e w1 ⟨hk1, hyes, _⟩
    obtain ⟨b, B0, rfl, hpg, hB⟩ := hyes hin
    have hpb := hpp b
    have hpc := hpq b
    have hS0 : Hid (Hs w w1 b ⟨P, 0, []⟩ B0 none 0 0 [] []) := hide ⟨ht0.out.kept hk1, hpg, hB, hk1, LnsR.nil _ _, Nat.le_refl _, Nat.zero_le _, by simp [blkN], by simp [blks]⟩
    clear hyes hpg hB hpp hpq
    go_wp2_with fail
    refine (few_any a1 N cN us w1 (hR.out.kept hk1 (by simp))).mono ?_
    rintro e w2 ⟨v, rfl, hv, j2⟩
    have hS2 := hide (hS0.out.keep j2)
    cases v
    · go_wp2_with fail
      refine (hkn0.out w2 hS2.out.kp).mono ?_
      rintro e w3 ⟨rfl, j3⟩
      go_wp2_with fail
      go_ret
      exact ⟨rfl, hS2.out.kp.trans j3 (by simp)⟩
    · obtain ⟨hN40, hu20⟩ := hv rfl
      have hN40 := hide hN40
      have hu20 := hide hu20
      clear hv j2 hk1 hS0
      go_upto_region 7 with (refine wpList_store_sh rfl rfl rfl w2.heap.size rfl (ShIn.new w2 0 0 none 0 0) (P : Int) 0 none 0 0 rfl ?_; intro w3 hb7 j3)
      have hj3 : Kept [] w2 w3 := ((Kept.refl [] w2).alloc (.cells #[.int .i64 0, .int .i64 0, .slice none 0 0] 32)).trans j3 (by simp)
      have hS3 := hide (hS2.out.keep hj3)
      have hb7B := hide (show w2.heap.size ∉ B0 from fun hm => by have := PG.lt _ _ _ _ hS2.out.pg _ hm; omega)
      have hb7 := hide hb7
      have hw2s := hide hS2.out.kp.size
      clear hj3 j3 hS2
      generalize w2.heap.size = b7 at *
      go_wp2_with fail
      go_loopg [5, 9, 10, 11, 12, 53, 54, 55, 56, 57, 58, 59, 60, 61, 62, 63, 64, 65, 66, 67, 68, 69, 70, 71, 72, 73, 74, 75] N (fun kx s5 s9 s10 s11 s12 s53 s54 s55 s56 s57 s58 s59 s60 s61 s62 s63 s64 s65 s66 s67 s68 s69 s70 s71 s72 s73 s74 s75 wr => ∃ (i b : Nat) (s : Sh) (B : List Nat) (a : Option Addr) (n c : Nat) (vs : List LnA), s5 = .pointer (some ⟨b, 0, none⟩) ∧ s53 = .int .i64 i ∧ i ≤ N ∧ N - i ≤ kx ∧ Hid (Hs w wr b s B a n c vs s.ls ∧ ShIn wr b7 s.places s.gone a n c ∧ b7 ∉ B ∧ b7 ∉ blkN a n ∧ b7 ∉ blks vs))
      case atStart => exact ⟨0, b, ⟨P, 0, []⟩, B0, none, 0, 0, [], rfl, rfl, Nat.zero_le _, by omega, hide ⟨hS3.out, hb7.out, hb7B.out, by simp [blkN], by simp [blks]⟩⟩
      case round =>
        obtain ⟨i, b', s, B, a, n, c, vs, rfl, rfl, hi, hg, hrel⟩ := hrel
        have hH := hide hrel.out.1
        have hb7 := hide hrel.out.2.1
        have hd1 := hide hrel.out.2.2.1
        have hd2 := hide hrel.out.2.2.2.1
        have hd3 := hide hrel.out.2.2.2.2
        clear hrel
        by_cases hlt : i < N
        · have hiN : (i : Int) < (N : Int) := by omega
          have hiu : i < us.length := by rw [hul.out]; exact hlt
          have t4 : IntKind.i64.wrap ((i : Int) + 1) = (i : Int) + 1 := by rw [IntKind.wrap_i64]; have := hN40.out; omega
          obtain ⟨g, o, rfl⟩ := hR.out.rowAddr rowAc (by omega)
          have hrow := hide ((hR.out.kept hH.out.kp (by simp)).row rowAc i hiu)
          have hun := hide (hu20.out _ (List.getElem_mem hiu))
          obtain ⟨l, hl⟩ := hU.out _ (List.getElem_mem hiu)
          have hl := hide hl
          generalize us[i] = u at *
          have h7lt := hide hb7.out.lt
          go_upto_region 9 with fail
          go_upto_region 10 with (first | refine wpList_store_ac rfl rfl rfl wr.heap.size rfl (AcIn.new wr ⟨0, 0, none, 0, 0, false⟩) u rfl ?_; intro w3 hb9 j3 | refine wpList_load_mid rfl 37 _ rfl g (o + i * 4) rfl (acV u) _ hrow.out Tryd.underlying37 rfl (by kernel_rfl) ?_)
          have hj3 : Kept [] wr w3 := ((Kept.refl [] wr).alloc (.cells #[.int .i64 0, .int .i64 0, .slice none 0 0, .bool false] 37)).trans j3 (by simp)
          have hH3 := hide (hH.out.keep hj3)
          obtain ⟨q0, q1, q2, q3⟩ := hb9.at
          obtain ⟨p0, p1, p2⟩ := (hb7.out.kept hj3 (by simp)).at
          go_wp2_with fail
          refine (does_any w w3 b' s B a n c vs hH3.out hw2.out u l (hl.out.kept hH3.out.kp (by simp)) hun.out).mono ?_
          rintro e w4 ⟨b4, s4, B4, a4, n4, c4, vs4, rfl, hH4, k4, hB4, hN4, hV4⟩
          have hb74 := hide ((hb7.out.kept hj3 (by simp)).kept k4 hd1.out)
          have hs3 := hide hj3.size
          have e1 : b7 ∉ B4 := fun hm => (hB4 _ hm).elim hd1.out (fun h => by have h1 := h7lt.out; have h2 := hs3.out; omega)
          have e2 : b7 ∉ blkN a4 n4 := fun hm => (hN4 _ hm).elim hd2.out (fun h => by have h1 := h7lt.out; have h2 := hs3.out; omega)
          have e3 : b7 ∉ blks vs4 := fun hm => (hV4 _ hm).elim hd3.out (fun h => by have h1 := h7lt.out; have h2 := hs3.out; omega)
          have e1 := hide e1
          have e2 := hide e2
          have e3 := hide e3
          have hH4 := hide hH4
          have hlt4 := hide hb74.out.lt
          clear q0 q1 q2 q3 p0 p1 p2 hb9 j3 hj3 k4 hB4 hN4 hV4 hH3 hrow hd1 hd2 hd3
          go_upto_region 11 with (refine wpList_store_sh rfl rfl rfl w4.heap.size rfl (ShIn.new w4 0 0 none 0 0) s4.places s4.gone a4 n4 c4 rfl ?_; intro w5 hb11 j5)
          have hj5 : Kept [] w4 w5 := ((Kept.refl [] w4).alloc (.cells #[.int .i64 0, .int .i64 0, .slice none 0 0] 32)).trans j5 (by simp)
          have hH5 := hide (hH4.out.keep hj5)
          have hb75 := hide (hb74.out.kept hj5 (by simp))
          have hb11 := hide hb11
          obtain ⟨p0, p1, p2⟩ := hb11.out.at
          go_wp2_with fail
          refine (looks_ask pageIs b4 s4.places s4.gone s4.ls B4 a4 n4 c4 vs4 w5 hH5.out.pg hH5.out.rd).mono ?_
          rintro e w6 ⟨rfl, j6⟩
          have hH6 := hide (hH5.out.keep j6)
          have hb76 := hide (hb75.out.kept j6 (by simp))
          have hb116 := hide (hb11.out.kept j6 (by simp))
          have hne : w4.heap.size ≠ b7 := by have := hlt4.out; omega
          clear p0 p1 p2 j5 hj5 j6
          go_upto_region 13 with fail
          refine wp_region_held_drew (S := (fun W => ShIn W w4.heap.size s4.places s4.gone a4 n4 c4)) (by kernel_rfl) ?_ (fun hHeld => ?_)
          · (try dsimp only); (first | exact hS9 | exact hb116.out.kept (Kept.refl [] w6).drew (by simp))
          refine wpAnyH_take (i := 0) (v := ?_) rfl (by kernel_rfl) (by kernel_rfl) (by kernel_rfl) (fun _ _ _ h => h) (Or.inl ⟨by rfl, ?_⟩) (by assumption) ?_
          rotate_left
          · (intro wq hSw; (try dsimp only at hSw); go_simp; try with_reducible rfl)
          try simp only [Act.put, List.getElem_toArray, List.getElem_cons_zero, List.setIfInBounds_toArray, List.set_cons_zero, List.set_cons_succ]
          refine wpAnyH_take (i := 1) (v := (.agg #[.int .i64 s4.places, .int .i64 s4.gone, .slice a4 n4 c4])) rfl (by kernel_rfl) (by kernel_rfl) (by kernel_rfl) (fun _ _ _ h => h) (yieldsIf_load_mid (by rfl) 32 _ rfl w4.heap.size 0 rfl (shL s4.places s4.gone a4 n4 c4) _ (fun _ h => h.range) Tryd.underlying32 rfl (by kernel_rfl)) (by assumption) ?_
          try simp only [Act.put, List.getElem_toArray, List.getElem_cons_succ, List.getElem_cons_zero, List.setIfInBounds_toArray, List.set_cons_zero, List.set_cons_succ]
          refine wpAnyH_take (i := 2) (v := ?_) rfl (by kernel_rfl) (by kernel_rfl) (by kernel_rfl) (fun _ _ _ h => h) (Or.inl ⟨by rfl, ?_⟩) (by assumption) ?_
          rotate_left
          · (intro wq hSw; (try dsimp only at hSw); go_simp; try with_reducible rfl)
          try simp only [Act.put, List.getElem_toArray, List.getElem_cons_succ, List.getElem_cons_zero, List.setIfInBounds_toArray, List.set_cons_zero, List.set_cons_succ]
          refine wpAnyH_ready (rs := [3]) (by kernel_rfl) (by simp) ?_
          refine AllReadyH.cons rfl (fun K hK => ?_) AllReadyH.nil
          rw [if_pos (by rfl)]
          refine wp_store_sh rfl rfl b7 rfl (hb76.out.kept (Kept.refl [] w6).drew (by simp)) s4.places s4.gone a4 n4 c4 rfl ?_; intro w9 hb99 j9; have hS9 := (hb116.out.kept (Kept.refl [] w6).drew (by simp)).kept j9 (by simpa using hne)
          refine hK.out _ _ ?_ (fun hHeld => ?_)
          · (try dsimp only); (first | exact hS9 | exact hb116.out.kept (Kept.refl [] w6).drew (by simp))
          clear hK K
          try simp only [Act.put, List.getElem_toArray, List.getElem_cons_succ, List.getElem_cons_zero, List.setIfInBounds_toArray, List.set_cons_zero, List.set_cons_succ]
          refine wpAnyH_done (by kernel_rfl) ?_ _
          have hk69 : Kept [b7] w6 w9 := (((Kept.refl [] w6).drew).mono (by simp)).trans j9 (fun y hy => .inl hy)
          have hH9 := hH6.out.keepS hw2.out hk69 (fun y hy => by simp at hy; subst hy; exact hw2s.out) (fun y hy hm => by simp at hm; subst hm; exact e1.out hy) (fun y hy hm => by simp at hm; subst hm; exact e2.out hy) (fun y hy hm => by simp at hm; subst hm; exact e3.out hy)
          go_wp2_with fail
          go_roundg (N - (i + 1))
          case measure => omega
          case rel => exact ⟨i + 1, b4, s4, B4, a4, n4, c4, vs4, rfl, by push_cast; rfl, by omega, Nat.le_refl _, hide ⟨hH9, hb99, e1.out, e2.out, e3.out⟩⟩
        · obtain rfl : i = N := by omega
          go_wp2_with fail
          refine (hkn0.out wr hH.out.kp).mono ?_
          rintro e w9 ⟨rfl, j9⟩
          go_wp2_with fail
          go_ret
          exact ⟨rfl, hH.out.kp.trans j9 (by simp)⟩
  · have hN := hide (none7_ask pageIs k1 hin w)
    by_cases hlo : k1 < 1
    · go_enter Tryd.func3, Tryd.ntmps3
      go_wp2_with fail
      refine hN.out.mono ?_
      rintro e w1 ⟨rfl, hk1⟩
      go_wp2_with fail
      refine (hkn0.out w1 hk1).mono ?_
      rintro e w2 ⟨rfl, hk2⟩
      go_wp2_with fail
      go_ret
      exact ⟨rfl, hk1.trans hk2 (by simp)⟩
    · have hhi : k1 > 1024 := by omega
      go_enter Tryd.func3, Tryd.ntmps3
      go_wp2_with fail
      refine hN.out.mono ?_
      rintro e w1 ⟨rfl, hk1⟩
      go_wp2_with fail
      refine (hkn0.out w1 hk1).mono ?_
      rintro e w2 ⟨rfl, hk2⟩
      go_wp2_with fail
      go_ret
      exact ⟨rfl, hk1.trans hk2 (by simp)⟩
end Go.Proofs.YtpeedjknjjbabaaDoor
