/- The walk of PackedLongs. -/
import Derived.Test.YtpdjlollijbdeaaDoorPakLaw2
namespace Go.Proofs.YtpdjlollijbdeaaDoor
open Go.RowKit
set_option linter.unusedVariables false
set_option maxRecDepth 10000

theorem ask_is5 {α : Type} [DecidableEq α] {E : List α × Int} {l : List α} {x : Int} (h : E = (l, x)) : (decide (E.1 = l) && decide (E.2 = x)) = true := by rw [h]; simp
/-- The two cells. -/
def cL (x : Int) : Cl := ⟨0, 0, 0, 0, 1, ⟨⟨1, x, 0, 0, 0⟩, zeroC, 0⟩⟩
def xL : Cl := ⟨120, 0, 0, 0, 1, zeroP⟩
theorem cL_valid (x : Int) : validC (cL x) = true := by
  unfold validC cL unmI penOk
  have h1 : colOk ⟨1, x, 0, 0, 0⟩ := .inr (.inl ⟨rfl, rfl, rfl, rfl⟩)
  have h2 : colOk zeroC := .inl ⟨rfl, rfl, rfl, rfl, rfl⟩
  simp [h1, h2]
theorem xL_valid : validC xL = true := by decide +kernel
theorem cL_b {x : Int} (h : Byte x) : PnB (cL x).p := ⟨⟨h, byte_zero, byte_zero, byte_zero⟩, ⟨byte_zero, byte_zero, byte_zero, byte_zero⟩, byte_zero⟩
theorem xL_b : PnB xL.p := ⟨⟨byte_zero, byte_zero, byte_zero, byte_zero⟩, ⟨byte_zero, byte_zero, byte_zero, byte_zero⟩, byte_zero⟩
theorem rowC5 : RowOf kcL 16 := ⟨by decide, fun _ => rfl, fun x u hu => by
  have := cellsV_one [x] u (by simpa [cellsV] using hu)
  exact this⟩
theorem made_cells (n : Nat) : (madeCells (Value.agg #[.int .i32 0, .int .i32 0, .int .i32 0, .int .i32 0, .int .i64 0, .int .i64 0, .int .u8 0, .int .u8 0, .int .u8 0, .int .u8 0, .int .i64 0, .int .u8 0, .int .u8 0, .int .u8 0, .int .u8 0, .int .u8 0]).cells (n * 16)).toList = cellsV (List.replicate n zeroK) := made_is rowC5 (d := zeroK) rfl n
theorem fill_next {n k : Nat} (h : k < n) (x : Int) : (List.replicate k (cL x) ++ List.replicate (n - k) zeroK).set k (cL x) = List.replicate (k + 1) (cL x) ++ List.replicate (n - (k + 1)) zeroK := by
  rw [List.set_append_right _ _ (by simp), List.length_replicate, Nat.sub_self, show n - k = (n - (k + 1)) + 1 by omega, List.replicate_succ, List.set_cons_zero, List.replicate_succ', List.append_assoc]
  rfl

set_option maxHeartbeats 4000000 in
theorem PackedLongs_out (KN : KnownIs5) (N x at' : Int) (hN : N < 99998 ∨ 100002 < N) (w : World) (ht : Tabs w) : Calls Tryd.prog 7 #[.int .i64 N, .int .u8 x, .int .i64 at'] w fun e w' => e = .returned (.bool true) ∧ Kept [] w w' := by
  have hKN := hide (KN w ht)
  clear ht KN
  by_cases h1 : N < 99998
  · go_enter Tryd.func7, Tryd.ntmps7
    go_wp2_with fail
    refine hKN.out.mono ?_
    rintro e w1 ⟨rfl, hk1⟩
    go_wp2_with fail
    go_ret
    exact ⟨rfl, hk1⟩
  · have h2 : 100002 < N := by omega
    have h3 : 99998 ≤ N := by omega
    go_enter Tryd.func7, Tryd.ntmps7
    go_wp2_with fail
    refine hKN.out.mono ?_
    rintro e w1 ⟨rfl, hk1⟩
    go_wp2_with fail
    go_ret
    exact ⟨rfl, hk1⟩

set_option maxRecDepth 100000 in
set_option maxHeartbeats 20000000 in
theorem PackedLongs_walk (KN : KnownIs5) (N : Nat) (x at' : Int) (hN1 : 99998 ≤ N) (hN2 : N ≤ 100002) (hx : Byte x) (w : World) (ht : Tabs w) : Calls Tryd.prog 7 #[.int .i64 (N : Int), .int .u8 x, .int .i64 at'] w fun e w' => e = .returned (.bool true) ∧ Kept [] w w' := by
  have hT := hide (fun w1 (hk : Kept [] w w1) => ht.kept hk)
  have hKN := hide KN
  clear ht KN
  have i1 : (99998 : Int) ≤ (N : Int) := by omega
  have i2 : (N : Int) ≤ 100002 := by omega
  have hz0 : CelIn (w.alloc (.cells #[.int .i32 0, .int .i32 0, .int .i32 0, .int .i32 0, .int .i64 0, .int .i64 0, .int .u8 0, .int .u8 0, .int .u8 0, .int .u8 0, .int .i64 0, .int .u8 0, .int .u8 0, .int .u8 0, .int .u8 0, .int .u8 0] 30)) w.heap.size zeroK := CelIn.new w zeroK
  go_enter Tryd.func7, Tryd.ntmps7
  go_upto_region 3 with fail
  go_upto_region 4 with (refine wpList_store_cel rfl rfl rfl w.heap.size rfl hz0 (cL x) rfl ?_; intro w1 hc1 hj1)
  have hk1 : Kept [] w w1 := ((Kept.refl [] w).alloc _).trans hj1 (by intro z hz; simp at hz; omega)
  have hs1 := hk1.size
  have hc1 := hide hc1
  have hl1 := hc1.out.lt
  clear hz0 hj1
  go_upto_region 5 with (refine wpList_mkF (n := N) (base := w.heap.size) ?_ rfl elCell rfl rfl rfl rfl rfl ?o2 ?o3; intro w2 ho2 hj2)
  case o2 => omega
  case o3 => exact hs1
  have hk2 := hk1.trans hj2 (by simp)
  have hc2 := hide (hc1.out.kept hj2 (by simp))
  rw [made_cells] at ho2
  have ho2 := hide ho2
  clear hc1 hj2 hk1 hs1
  generalize w1.heap.size = g at *
  have hgne : w.heap.size ≠ g := by omega
  go_wp2_with fail
  go_loopg [9, 27, 28, 29, 30, 31, 32, 33, 34] N (fun kx s9 s27 s28 s29 s30 s31 s32 s33 s34 wr => ∃ (k : Nat), s27 = .int .i64 k ∧ k ≤ N ∧ N - k ≤ kx ∧ Hid (Own wr w.heap.size 30 (some ⟨g, 0, none⟩) N N 16 (cellsV (List.replicate k (cL x) ++ List.replicate (N - k) zeroK))) ∧ Hid (CelIn wr w.heap.size (cL x)) ∧ Kept [] w wr)
  case atStart => exact ⟨0, rfl, Nat.zero_le _, by omega, hide (by simpa using ho2.out), hc2, hk2⟩
  case round =>
    obtain ⟨k, rfl, hk, hgk, ho, hc, hkr⟩ := hrel
    by_cases hlt : k < N
    · have hkn : (k : Int) < (N : Int) := by omega
      have rc := hc.out.range
      have ho' := ho.out
      have hkl : k < (List.replicate k (cL x) ++ List.replicate (N - k) zeroK).length := by simp; omega
      have hge := hide (ho.out.ge g (by simp [blk])).1
      go_wp2_with (first | refine wpList_load_cel rfl rfl w.heap.size 0 rfl rc ?_ | (refine wpList_store_celO rfl rfl rfl g k rfl ho' hkl (cL x) rfl ?_; intro w3 ho3 hj3))
      go_roundg (N - (k + 1))
      case measure => omega
      case rel => exact ⟨k + 1, by push_cast; rfl, by omega, Nat.le_refl _, hide (by rw [← fill_next hlt]; exact ho3), hide (hc.out.kept hj3 (by simpa using hgne)), hkr.trans hj3 (by intro z hz; simp at hz; subst hz; exact .inr hge.out)⟩
    · obtain rfl : k = N := by omega
      rw [Nat.sub_self, List.replicate_zero, List.append_nil] at ho
      have hx' := hx
      by_cases h0 : 0 ≤ at'
      · obtain ⟨A, rfl⟩ : ∃ A : Nat, at' = (A : Int) := ⟨at'.toNat, by omega⟩
        by_cases h1 : A < k
        · have h1i : (A : Int) < (k : Int) := by omega
          have hkl : A < (List.replicate k (cL x)).length := by rw [List.length_replicate]; exact h1
          have ho' := ho.out
          have hge := hide (ho.out.ge g (by simp [blk])).1
          go_upto_region 11 with fail
          go_upto_region 12 with (refine wpList_store_celO rfl rfl rfl g A rfl ho' hkl xL rfl ?_; intro w4 ho4 hj4)
          have hk4 : Kept [] w w4 := hkr.trans hj4 (by intro z hz; simp at hz; subst hz; exact .inr hge.out)
          obtain ⟨L, hL⟩ : ∃ L, L = (List.replicate k (cL x)).set A xL := ⟨_, rfl⟩
          have hLn : L.length = k := by rw [hL, List.length_set, List.length_replicate]
          have hLm : ∀ c ∈ L, c = xL ∨ c = cL x := fun c hc => by
            rw [hL] at hc
            rcases List.mem_or_eq_of_mem_set hc with h | h
            · exact .inr (List.eq_of_mem_replicate h)
            · exact .inl h
          have hLv : ∀ c ∈ L, validC c = true := fun c hc => by rcases hLm c hc with h | h <;> rw [h]; exact xL_valid; exact cL_valid x
          have hLb : ∀ c ∈ L, PnB c.p := fun c hc => by rcases hLm c hc with h | h <;> rw [h]; exact xL_b; exact cL_b hx
          rw [← hL] at ho4
          have ho4 := hide ho4
          clear hL hc ho ho' hLm
          have hP := hide (rPack5_any (some ⟨g, 0, none⟩) k k L hLb w4 ho4.out.rd (by omega))
          have hA := hide (fun a2 n2 c2 mm no (hm : packR L = (mm, no)) w5 (hk : Kept [] w w5) ho hr2 => packs_ask (some ⟨g, 0, none⟩) k k L hLb no a2 n2 c2 mm true (ask_is5 hm) w5 (hT.out w5 hk) ho (by omega) hr2)
          by_cases hbig : 100000 < k
          · have hpk : packR L = ([], 5) := by unfold packR; rw [if_pos (by omega)]
            rw [hpk] at hP
            go_wp2_with fail
            refine hP.out.mono ?_
            rintro e w5 ⟨a5, n5, c5, rfl, ho5, hj5⟩
            have hk5 := hk4.trans hj5 (by simp)
            have hA5 := hide (hA.out a5 n5 c5 [] 5 hpk w5 hk5 (ho4.out.kept hj5 (by simp)).rd ho5.rd)
            clear ho5 hP hA hpk
            go_wp2_with fail
            refine hA5.out.mono ?_
            rintro e w6 ⟨rfl, hj6⟩
            have hk6 := hk5.trans hj6 (by simp)
            go_wp2_with fail
            refine (hKN.out w6 (hT.out w6 hk6)).mono ?_
            rintro e w7 ⟨rfl, hj7⟩
            go_wp2_with fail
            go_ret
            exact ⟨rfl, hk6.trans hj7 (by simp)⟩
          · have hpk : packR L = (packL L, 0) := packR_ok (by omega) hLv
            obtain ⟨fa1, fa2, fa3, fa4, fa5⟩ := pack_facts (a := L) (by omega) hLv hLb
            have ga3 := hide fa3
            have hCn := hide (fun a n c w1 (hk : Kept [] w w1) hr hn => Count5_any a n c (packL L) fa5 w1 (hT.out w1 hk) hr hn)
            have hVn := hide (fun a n c w1 (hk : Kept [] w w1) hr hn => Valid5_any a n c (packL L) fa5 w1 (hT.out w1 hk) hr hn)
            rw [fa2, hLn] at hCn
            rw [fa1] at hVn
            rw [hpk] at hP
            clear fa1 fa2 fa3 fa4 fa5
            go_wp2_with fail
            refine hP.out.mono ?_
            rintro e w5 ⟨a5, n5, c5, rfl, ho5, hj5⟩
            have hk5 := hk4.trans hj5 (by simp)
            have hA5 := hide (hA.out a5 n5 c5 (packL L) 0 hpk w5 hk5 (ho4.out.kept hj5 (by simp)).rd ho5.rd)
            have ho5 := hide ho5
            have hn5 : n5 ≤ 1000000 := by have h1 : (packL L).length = n5 := ho5.out.rd.runs; have := ga3.out; omega
            clear hP hA hpk
            go_wp2_with fail
            refine hA5.out.mono ?_
            rintro e w6 ⟨rfl, hj6⟩
            have hk6 := hk5.trans hj6 (by simp)
            have r6 := hide (ho5.out.rd.kept hj6 (by simp))
            go_wp2_with fail
            refine (hCn.out a5 n5 c5 w6 hk6 r6.out hn5).mono ?_
            rintro e w7 ⟨rfl, hj7⟩
            have hk7 := hk6.trans hj7 (by simp)
            go_wp2_with fail
            refine (hVn.out a5 n5 c5 w7 hk7 (r6.out.kept hj7 (by simp)) hn5).mono ?_
            rintro e w8 ⟨rfl, hj8⟩
            have hk8 := hk7.trans hj8 (by simp)
            go_wp2_with fail
            refine (hKN.out w8 (hT.out w8 hk8)).mono ?_
            rintro e w9 ⟨rfl, hj9⟩
            go_wp2_with fail
            go_ret
            exact ⟨rfl, hk8.trans hj9 (by simp)⟩
        · have h1i : (k : Int) ≤ (A : Int) := by omega
          obtain ⟨L, hL⟩ : ∃ L, L = List.replicate k (cL x) := ⟨_, rfl⟩
          have hLn : L.length = k := by rw [hL, List.length_replicate]
          have hLv : ∀ c ∈ L, validC c = true := fun c hc => by rw [hL] at hc; rw [List.eq_of_mem_replicate hc]; exact cL_valid x
          have hLb : ∀ c ∈ L, PnB c.p := fun c hc => by rw [hL] at hc; rw [List.eq_of_mem_replicate hc]; exact cL_b hx
          rw [← hL] at ho
          clear hL hc
          obtain ⟨w4, hw4⟩ : ∃ z : World, z = wr := ⟨_, rfl⟩
          subst hw4
          have ho4 := ho
          have hk4 := hkr
          have hP := hide (rPack5_any (some ⟨g, 0, none⟩) k k L hLb w4 ho4.out.rd (by omega))
          have hA := hide (fun a2 n2 c2 mm no (hm : packR L = (mm, no)) w5 (hk : Kept [] w w5) ho hr2 => packs_ask (some ⟨g, 0, none⟩) k k L hLb no a2 n2 c2 mm true (ask_is5 hm) w5 (hT.out w5 hk) ho (by omega) hr2)
          by_cases hbig : 100000 < k
          · have hpk : packR L = ([], 5) := by unfold packR; rw [if_pos (by omega)]
            rw [hpk] at hP
            go_wp2_with fail
            refine hP.out.mono ?_
            rintro e w5 ⟨a5, n5, c5, rfl, ho5, hj5⟩
            have hk5 := hk4.trans hj5 (by simp)
            have hA5 := hide (hA.out a5 n5 c5 [] 5 hpk w5 hk5 (ho4.out.kept hj5 (by simp)).rd ho5.rd)
            clear ho5 hP hA hpk
            go_wp2_with fail
            refine hA5.out.mono ?_
            rintro e w6 ⟨rfl, hj6⟩
            have hk6 := hk5.trans hj6 (by simp)
            go_wp2_with fail
            refine (hKN.out w6 (hT.out w6 hk6)).mono ?_
            rintro e w7 ⟨rfl, hj7⟩
            go_wp2_with fail
            go_ret
            exact ⟨rfl, hk6.trans hj7 (by simp)⟩
          · have hpk : packR L = (packL L, 0) := packR_ok (by omega) hLv
            obtain ⟨fa1, fa2, fa3, fa4, fa5⟩ := pack_facts (a := L) (by omega) hLv hLb
            have ga3 := hide fa3
            have hCn := hide (fun a n c w1 (hk : Kept [] w w1) hr hn => Count5_any a n c (packL L) fa5 w1 (hT.out w1 hk) hr hn)
            have hVn := hide (fun a n c w1 (hk : Kept [] w w1) hr hn => Valid5_any a n c (packL L) fa5 w1 (hT.out w1 hk) hr hn)
            rw [fa2, hLn] at hCn
            rw [fa1] at hVn
            rw [hpk] at hP
            clear fa1 fa2 fa3 fa4 fa5
            go_wp2_with fail
            refine hP.out.mono ?_
            rintro e w5 ⟨a5, n5, c5, rfl, ho5, hj5⟩
            have hk5 := hk4.trans hj5 (by simp)
            have hA5 := hide (hA.out a5 n5 c5 (packL L) 0 hpk w5 hk5 (ho4.out.kept hj5 (by simp)).rd ho5.rd)
            have ho5 := hide ho5
            have hn5 : n5 ≤ 1000000 := by have h1 : (packL L).length = n5 := ho5.out.rd.runs; have := ga3.out; omega
            clear hP hA hpk
            go_wp2_with fail
            refine hA5.out.mono ?_
            rintro e w6 ⟨rfl, hj6⟩
            have hk6 := hk5.trans hj6 (by simp)
            have r6 := hide (ho5.out.rd.kept hj6 (by simp))
            go_wp2_with fail
            refine (hCn.out a5 n5 c5 w6 hk6 r6.out hn5).mono ?_
            rintro e w7 ⟨rfl, hj7⟩
            have hk7 := hk6.trans hj7 (by simp)
            go_wp2_with fail
            refine (hVn.out a5 n5 c5 w7 hk7 (r6.out.kept hj7 (by simp)) hn5).mono ?_
            rintro e w8 ⟨rfl, hj8⟩
            have hk8 := hk7.trans hj8 (by simp)
            go_wp2_with fail
            refine (hKN.out w8 (hT.out w8 hk8)).mono ?_
            rintro e w9 ⟨rfl, hj9⟩
            go_wp2_with fail
            go_ret
            exact ⟨rfl, hk8.trans hj9 (by simp)⟩
      · have h0i : at' < 0 := by omega
        obtain ⟨L, hL⟩ : ∃ L, L = List.replicate k (cL x) := ⟨_, rfl⟩
        have hLn : L.length = k := by rw [hL, List.length_replicate]
        have hLv : ∀ c ∈ L, validC c = true := fun c hc => by rw [hL] at hc; rw [List.eq_of_mem_replicate hc]; exact cL_valid x
        have hLb : ∀ c ∈ L, PnB c.p := fun c hc => by rw [hL] at hc; rw [List.eq_of_mem_replicate hc]; exact cL_b hx
        rw [← hL] at ho
        clear hL hc
        obtain ⟨w4, hw4⟩ : ∃ z : World, z = wr := ⟨_, rfl⟩
        subst hw4
        have ho4 := ho
        have hk4 := hkr
        have hP := hide (rPack5_any (some ⟨g, 0, none⟩) k k L hLb w4 ho4.out.rd (by omega))
        have hA := hide (fun a2 n2 c2 mm no (hm : packR L = (mm, no)) w5 (hk : Kept [] w w5) ho hr2 => packs_ask (some ⟨g, 0, none⟩) k k L hLb no a2 n2 c2 mm true (ask_is5 hm) w5 (hT.out w5 hk) ho (by omega) hr2)
        by_cases hbig : 100000 < k
        · have hpk : packR L = ([], 5) := by unfold packR; rw [if_pos (by omega)]
          rw [hpk] at hP
          go_wp2_with fail
          refine hP.out.mono ?_
          rintro e w5 ⟨a5, n5, c5, rfl, ho5, hj5⟩
          have hk5 := hk4.trans hj5 (by simp)
          have hA5 := hide (hA.out a5 n5 c5 [] 5 hpk w5 hk5 (ho4.out.kept hj5 (by simp)).rd ho5.rd)
          clear ho5 hP hA hpk
          go_wp2_with fail
          refine hA5.out.mono ?_
          rintro e w6 ⟨rfl, hj6⟩
          have hk6 := hk5.trans hj6 (by simp)
          go_wp2_with fail
          refine (hKN.out w6 (hT.out w6 hk6)).mono ?_
          rintro e w7 ⟨rfl, hj7⟩
          go_wp2_with fail
          go_ret
          exact ⟨rfl, hk6.trans hj7 (by simp)⟩
        · have hpk : packR L = (packL L, 0) := packR_ok (by omega) hLv
          obtain ⟨fa1, fa2, fa3, fa4, fa5⟩ := pack_facts (a := L) (by omega) hLv hLb
          have ga3 := hide fa3
          have hCn := hide (fun a n c w1 (hk : Kept [] w w1) hr hn => Count5_any a n c (packL L) fa5 w1 (hT.out w1 hk) hr hn)
          have hVn := hide (fun a n c w1 (hk : Kept [] w w1) hr hn => Valid5_any a n c (packL L) fa5 w1 (hT.out w1 hk) hr hn)
          rw [fa2, hLn] at hCn
          rw [fa1] at hVn
          rw [hpk] at hP
          clear fa1 fa2 fa3 fa4 fa5
          go_wp2_with fail
          refine hP.out.mono ?_
          rintro e w5 ⟨a5, n5, c5, rfl, ho5, hj5⟩
          have hk5 := hk4.trans hj5 (by simp)
          have hA5 := hide (hA.out a5 n5 c5 (packL L) 0 hpk w5 hk5 (ho4.out.kept hj5 (by simp)).rd ho5.rd)
          have ho5 := hide ho5
          have hn5 : n5 ≤ 1000000 := by have h1 : (packL L).length = n5 := ho5.out.rd.runs; have := ga3.out; omega
          clear hP hA hpk
          go_wp2_with fail
          refine hA5.out.mono ?_
          rintro e w6 ⟨rfl, hj6⟩
          have hk6 := hk5.trans hj6 (by simp)
          have r6 := hide (ho5.out.rd.kept hj6 (by simp))
          go_wp2_with fail
          refine (hCn.out a5 n5 c5 w6 hk6 r6.out hn5).mono ?_
          rintro e w7 ⟨rfl, hj7⟩
          have hk7 := hk6.trans hj7 (by simp)
          go_wp2_with fail
          refine (hVn.out a5 n5 c5 w7 hk7 (r6.out.kept hj7 (by simp)) hn5).mono ?_
          rintro e w8 ⟨rfl, hj8⟩
          have hk8 := hk7.trans hj8 (by simp)
          go_wp2_with fail
          refine (hKN.out w8 (hT.out w8 hk8)).mono ?_
          rintro e w9 ⟨rfl, hj9⟩
          go_wp2_with fail
          go_ret
          exact ⟨rfl, hk8.trans hj9 (by simp)⟩
end Go.Proofs.YtpdjlollijbdeaaDoor
