/- The walk of WidthHolds. -/
import Derived.Test.YtbpnfemcblfknabDoorWidLaw3
import Derived.Test.YtbpnfemcblfknabDoorWidSlice
import Derived.BigQuiet
import Derived.Deep.Cut
namespace Go.Proofs.YtbpnfemcblfknabDoor
open Go.RowKit
set_option linter.unusedVariables false

theorem apart_tables : ∀ i, i < 18 → ∀ j, j < 19 → (marksT.getD i (0, 0)).1 ≤ (wideT.getD j (0, 0)).2 → ¬ (wideT.getD j (0, 0)).1 ≤ (marksT.getD i (0, 0)).2 := by decide

theorem Own.cap {w : World} {base : Nat} {E : TypeId} {a : Option Addr} {n c size : Nat} {xs : List Value} (h : Own w base E a n c size xs) : n ≤ c := by
  rcases h.2 with ⟨_, h0⟩ | ⟨g, cap, cur, hv, _, _, hnc, _⟩
  · omega
  · injection hv with h1 h2 h3
    omega

set_option maxRecDepth 100000 in
set_option maxHeartbeats 1000000 in
theorem WidthHolds_big (a a2 : Option Addr) (n c n2 c2 : Nat) (m more : Int) (w : World) (ht : Tabs w) (hm : 0 ≤ m ∧ m ≤ 255) (hmore : 0 ≤ more ∧ more ≤ 255) (h : 60 < n ∨ (n ≤ 60 ∧ 60 < n2) ∨ (n ≤ 60 ∧ n2 ≤ 60 ∧ 200 < m) ∨ (n ≤ 60 ∧ n2 ≤ 60 ∧ m ≤ 200 ∧ 200 < more)) :
    Calls Tryd.prog 6 #[.slice a n c, .slice a2 n2 c2, .int .u8 m, .int .u8 more] w fun e w' => e = .returned (.bool true) ∧ Kept [] w w' := by
  have hkn := hide (known_any w ht)
  clear ht
  rcases h with h | ⟨h1, h⟩ | ⟨h1, h2, h⟩ | ⟨h1, h2, h3, h⟩
  all_goals
    go_enter Tryd.func6, Tryd.ntmps6
    go_wp2_with fail
    refine hkn.out.mono ?_
    rintro e w1 ⟨rfl, hk1⟩
    go_wp2_with fail
    go_ret
    exact ⟨rfl, hk1⟩

set_option maxRecDepth 100000 in
set_option maxHeartbeats 8000000 in
theorem WidthHolds_small (a a2 : Option Addr) (n c n2 c2 : Nat) (la lb : List Int) (m more : Int) (w : World) (ht : Tabs w) (hm : 0 ≤ m ∧ m ≤ 200) (hmore : 0 ≤ more ∧ more ≤ 200) (hn : n ≤ 60) (hn2 : n2 ≤ 60)
    (hA : Rd w a n 1 (ints .i32 la)) (hB : Rd w a2 n2 1 (ints .i32 lb)) :
    Calls Tryd.prog 6 #[.slice a n c, .slice a2 n2 c2, .int .u8 m, .int .u8 more] w fun e w' => e = .returned (.bool true) ∧ Kept [] w w' := by
  have hM := hide (fun w1 hk => (Marks_any w1 (ht.kept hk)).mono fun _ _ h => h.all : ∀ w1, Kept [] w w1 → _)
  have hW := hide (fun w1 hk => (Wide_any w1 (ht.kept hk)).mono fun _ _ h => h.all : ∀ w1, Kept [] w w1 → _)
  rw [marks_len] at hM
  rw [wide_len] at hW
  have ht' := hide ht
  have hA' := hide hA
  have hB' := hide hB
  have m1 := hm.1
  have m2 := hm.2
  have m3 := hmore.1
  have m4 := hmore.2
  clear ht hA hB hm hmore
  go_enter Tryd.func6, Tryd.ntmps6
  go_wp2_with fail
  refine (hM.out w (Kept.refl _ _)).mono ?_
  rintro e w1 ⟨b1, rfl, hb1, hl1, ht1, _, hk1⟩
  go_wp2_with fail
  refine (hW.out w1 hk1).mono ?_
  rintro e w2 ⟨b2, rfl, hb2, hl2, ht2, _, hk2⟩
  go_wp2_with fail
  obtain ⟨W0, hW0⟩ : ∃ z : World, z = w2.alloc (.cells #[.slice (some ⟨b1, 0, none⟩) 18 18, .slice (some ⟨b2, 0, none⟩) 19 19] 27) := ⟨_, rfl⟩
  have hk0 : Kept [] w2 W0 := by rw [hW0]; exact (Kept.refl [] w2).alloc _
  have p0 : W0.cell? ⟨w2.heap.size, 0, none⟩ = some (.slice (some ⟨b1, 0, none⟩) 18 18) := by rw [hW0]; simp [go_sem]
  have p1 : W0.cell? ⟨w2.heap.size, 1, none⟩ = some (.slice (some ⟨b2, 0, none⟩) 19 19) := by rw [hW0]; simp [go_sem]
  rw [← hW0]
  clear hW0
  have hlist : Hid (∀ k : Nat, k < 2 → ∃ (T : List (Int × Int)) (b : Nat), Sorted T ∧ T.length < 1000 ∧ TabAt W0 b T ∧ W0.cell? ⟨w2.heap.size, k, none⟩ = some (.slice (some ⟨b, 0, none⟩) T.length T.length)) := hide (by
    intro k hk
    match k, hk with
    | 0, _ => exact ⟨marksT, b1, marks_sorted, by decide, ht1.kept (hk2.trans hk0 (by simp)) (by simp), p0⟩
    | 1, _ => exact ⟨wideT, b2, wide_sorted, by decide, ht2.kept hk0 (by simp), p1⟩)
  have hkw : Kept [] w W0 := hk1.trans (hk2.trans hk0 (by simp)) (by simp)
  have hkw' := hide hkw
  clear hkw hk0 p0 p1 hk1 hk2 ht1 ht2 hb1 hl1 hb2 hl2
  go_loopg [40] 2 (fun kx s40 wr => ∃ k : Nat, s40 = .int .i64 k ∧ k ≤ 2 ∧ 2 - k ≤ kx ∧ Kept [] W0 wr)
  case atStart => exact ⟨0, rfl, Nat.zero_le _, by omega, Kept.refl _ _⟩
  case round =>
    obtain ⟨k, rfl, hk, hg, hkr⟩ := hrel
    by_cases hlt : k < 2
    · have hkn2 : (k : Int) < 2 := by omega
      obtain ⟨T, b, hS, hT, hTa, hc⟩ := hlist.out k hlt
      have hc := hkr.cell hc (by simp)
      have hTl := hide (show T.length = T.length from rfl)
      have hS' := hide hS
      have hTa' := hide (hTa.kept hkr (by simp))
      clear hS hTa hTl hlist
      obtain ⟨q, hq⟩ : ∃ q, q = T.length := ⟨_, rfl⟩
      rw [← hq] at hc hT
      have hq' := hide hq
      clear hq
      go_wp2_with fail
      obtain ⟨wO, rfl⟩ : ∃ z : World, z = wr := ⟨_, rfl⟩
      go_loopg [46] q (fun kx s46 wq => ∃ j : Nat, s46 = .int .i64 j ∧ j ≤ q ∧ q - j ≤ kx ∧ Kept [] wO wq)
      case atStart => exact ⟨0, rfl, Nat.zero_le _, by omega, Kept.refl _ _⟩
      case round =>
        obtain ⟨j, rfl, hj, hgj, hkq⟩ := hrel
        by_cases hjq : j < q
        · have hjq2 : (j : Int) < (q : Int) := by omega
          obtain ⟨c1, c2⟩ := (hTa'.out.kept hkq (by simp)) j (by rw [← hq'.out]; exact hjq)
          have o1 := hS'.out.1 j (by rw [← hq'.out]; exact hjq)
          obtain ⟨WA, hWA⟩ : ∃ z : World, z = wr.alloc (.cells #[.int .i32 (T.getD j (0, 0)).1, .int .i32 (T.getD j (0, 0)).2] 30) := ⟨_, rfl⟩
          have hkA : Kept [] wr WA := by rw [hWA]; exact (Kept.refl [] wr).alloc _
          have e0 : WA.cell? ⟨wr.heap.size, 0, none⟩ = some (.int .i32 (T.getD j (0, 0)).1) := by rw [hWA]; simp [go_sem]
          have e1 : WA.cell? ⟨wr.heap.size, 1, none⟩ = some (.int .i32 (T.getD j (0, 0)).2) := by rw [hWA]; simp [go_sem]
          have d1 : decide ((T.getD j (0, 0)).2 < (T.getD j (0, 0)).1) = false := decide_eq_false (by omega)
          rcases Nat.eq_zero_or_pos j with hj0 | hj0
          · subst hj0
            generalize (T.getD 0 (0, 0)).1 = x0 at *
            generalize (T.getD 0 (0, 0)).2 = x1 at *
            go_wp2_with fail
            rw [← hWA]
            clear hWA
            go_quiet (fail)
            go_wp2_with fail
            go_roundg (q - (0 + 1))
            case measure => omega
            case rel => exact ⟨0 + 1, by push_cast; rfl, by omega, Nat.le_refl _, (hkq.trans hkA (by simp)).drewN _⟩
          · obtain ⟨i, rfl⟩ : ∃ i, j = i + 1 := ⟨j - 1, by omega⟩
            obtain ⟨g1, g2⟩ := ((hTa'.out.kept hkq (by simp)).kept hkA (by simp)) i (by rw [← hq'.out]; omega)
            have o2 := hS'.out.2 i (i + 1) (by omega) (by rw [← hq'.out]; exact hjq)
            have d2 : decide ((T.getD (i + 1) (0, 0)).1 ≤ (T.getD i (0, 0)).2) = false := decide_eq_false (by omega)
            generalize (T.getD (i + 1) (0, 0)).1 = x0 at *
            generalize (T.getD (i + 1) (0, 0)).2 = x1 at *
            generalize (T.getD i (0, 0)).2 = y1 at *
            have r1 : (0 : Int) < ((i + 1 : Nat) : Int) := by omega
            go_wp2_with fail
            rw [← hWA]
            clear hWA
            go_quiet (fail)
            go_wp2_with fail
            go_roundg (q - (i + 1 + 1))
            case measure => omega
            case rel => exact ⟨i + 1 + 1, by push_cast; rfl, by omega, Nat.le_refl _, (hkq.trans hkA (by simp)).drewN _⟩
        · obtain rfl : j = q := by omega
          go_wp2_with fail
          go_roundg (2 - (k + 1))
          case measure => omega
          case rel => exact ⟨k + 1, by push_cast; rfl, by omega, Nat.le_refl _, hkr.trans hkq (by simp)⟩
    · obtain rfl : k = 2 := by omega
      have hkR := hide (hkw'.out.trans hkr (by simp))
      clear hlist hkw' hkr
      obtain ⟨wP, rfl⟩ : ∃ z : World, z = wr := ⟨_, rfl⟩
      go_wp2_with fail
      refine (hM.out wP hkR.out).mono ?_
      rintro e w3 ⟨b3, rfl, _, _, ht3, _, hk3⟩
      have ht3' := hide ht3
      have hkR3 := hide (hkR.out.trans hk3 (by simp))
      clear ht3 hk3 hkR
      go_wp2_with fail
      go_loopg [75] 18 (fun kx s75 wr => ∃ i : Nat, s75 = .int .i64 i ∧ i ≤ 18 ∧ 18 - i ≤ kx ∧ Kept [] w3 wr)
      case atStart => exact ⟨0, rfl, Nat.zero_le _, by omega, Kept.refl _ _⟩
      case round =>
        obtain ⟨i, rfl, hi, hgi, hkr⟩ := hrel
        obtain ⟨wQ, rfl⟩ : ∃ z : World, z = wr := ⟨_, rfl⟩
        by_cases hi18 : i < 18
        · have hi18' : (i : Int) < 18 := by omega
          obtain ⟨c1, c2⟩ := (ht3'.out.kept hkr (by simp)) i hi18
          have hap := hide (apart_tables i hi18)
          generalize (marksT.getD i (0, 0)).1 = x0 at *
          generalize (marksT.getD i (0, 0)).2 = x1 at *
          go_wp2_with fail
          have hkA : Kept [] wQ (wQ.alloc (.cells #[.int .i32 x0, .int .i32 x1] 30)) := (Kept.refl [] wQ).alloc _
          have e0 : (wQ.alloc (.cells #[.int .i32 x0, .int .i32 x1] 30)).cell? ⟨wQ.heap.size, 0, none⟩ = some (.int .i32 x0) := by simp [go_sem]
          have e1 : (wQ.alloc (.cells #[.int .i32 x0, .int .i32 x1] 30)).cell? ⟨wQ.heap.size, 1, none⟩ = some (.int .i32 x1) := by simp [go_sem]
          refine (hW.out _ (hkR3.out.trans (hkr.trans hkA (by simp)) (by simp))).mono ?_
          rintro e w4 ⟨b4, rfl, _, _, ht4, _, hk4⟩
          have e0 := hide (hk4.cell e0 (by simp))
          have e1 := hide (hk4.cell e1 (by simp))
          have ht4' := hide ht4
          have hk34 := hide (hkr.trans (hkA.trans hk4 (by simp)) (by simp))
          clear ht4 hk4 hkA c1 c2 hkr
          go_wp2_with fail
          go_loopg [81] 19 (fun kx s81 wr => ∃ j : Nat, s81 = .int .i64 j ∧ j ≤ 19 ∧ 19 - j ≤ kx ∧ Kept [] w4 wr)
          case atStart => exact ⟨0, rfl, Nat.zero_le _, by omega, Kept.refl _ _⟩
          case round =>
            obtain ⟨j, rfl, hj, hgj, hkr⟩ := hrel
            by_cases hj19 : j < 19
            · have hj19' : (j : Int) < 19 := by omega
              obtain ⟨c1, c2⟩ := (ht4'.out.kept hkr (by simp)) j hj19
              have hap2 := hap.out j hj19
              generalize (wideT.getD j (0, 0)).1 = y0 at *
              generalize (wideT.getD j (0, 0)).2 = y1 at *
              obtain ⟨WA, hWA⟩ : ∃ z : World, z = wr.alloc (.cells #[.int .i32 y0, .int .i32 y1] 30) := ⟨_, rfl⟩
              have hkA : Kept [] wr WA := by rw [hWA]; exact (Kept.refl [] wr).alloc _
              have d0 : WA.cell? ⟨wr.heap.size, 0, none⟩ = some (.int .i32 y0) := by rw [hWA]; simp [go_sem]
              have d1 : WA.cell? ⟨wr.heap.size, 1, none⟩ = some (.int .i32 y1) := by rw [hWA]; simp [go_sem]
              have e0 := (hkr.trans hkA (by simp)).cell e0.out (by simp)
              have e1 := (hkr.trans hkA (by simp)).cell e1.out (by simp)
              by_cases hxy : x0 ≤ y1
              · have hyx := hap2 hxy
                clear hap2
                go_upto_region 19 with fail
                rw [← hWA]
                clear hWA
                go_wp2_with fail
                go_roundg (19 - (j + 1))
                case measure => omega
                case rel => exact ⟨j + 1, by push_cast; rfl, by omega, Nat.le_refl _, hkr.trans hkA (by simp)⟩
              · clear hap2
                go_upto_region 19 with fail
                rw [← hWA]
                clear hWA
                go_wp2_with fail
                go_roundg (19 - (j + 1))
                case measure => omega
                case rel => exact ⟨j + 1, by push_cast; rfl, by omega, Nat.le_refl _, hkr.trans hkA (by simp)⟩
            · obtain rfl : j = 19 := by omega
              go_wp2_with fail
              go_roundg (18 - (i + 1))
              case measure => omega
              case rel => exact ⟨i + 1, by push_cast; rfl, by omega, Nat.le_refl _, hk34.out.trans hkr (by simp)⟩
        · obtain rfl : i = 18 := by omega
          have hkQ := hide (hkR3.out.trans hkr (by simp))
          clear ht3' hkR3 hkr hM hW
          have hAQ := hide (hA'.out.kept hkQ.out (by simp))
          have hBQ := hide (hB'.out.kept hkQ.out (by simp))
          have hla : Hid (la.length = n) := hide (by have := hA'.out.1; rw [ints_len] at this; omega)
          have hlb : Hid (lb.length = n2) := hide (by have := hB'.out.1; rw [ints_len] at this; omega)
          clear hA' hB'
          go_upto_region 24 with (first
            | (at_builtin; refine wpList_app (b := a) (base := wQ.heap.size) ?_ rfl elRune rfl rfl (Own.nil _ _ _ _) rfl hAQ.out (ints_one _ _) ?o2 ?o3; intro a5 c5 w5 ho5 hk5 hat5; simp only [Nat.zero_add, List.nil_append] at ho5)
            | (at_builtin; refine wpList_app ?_ rfl elRune rfl rfl ho5 rfl (hBQ.out.kept hk5 ?o4) (ints_one _ _) ?o5 ?o6; intro a6 c6 w6 ho6 hk6 hat6; rw [ints_append] at ho6))
          case o2 => omega
          case o3 => exact Nat.le_refl _
          case o4 => simp [blk]
          case o5 => omega
          case o6 => exact hk5.size
          have hkS : Kept [] wQ w6 := (hk5.trans hk6 (fun x hx => .inr (by rcases hat5 x hx with h | h; simp [blk] at h; exact h))).mono (by simp [blk])
          have hk6' := hide (hkQ.out.trans hkS (by simp))
          have hAS := hide (hAQ.out.kept hkS (by simp))
          have hBS := hide (hBQ.out.kept hkS (by simp))
          have hR := hide ho6.rd
          have hcap := ho6.cap
          have hlL : Hid ((la ++ lb).length = n + n2) := hide (by rw [List.length_append, hla.out, hlb.out])
          clear hk5 hat5 ho5 hk6 hat6 ho6 hkS hAQ hBQ hkQ
          have bT := textI_bound (la ++ lb)
          rw [hlL.out] at bT
          have bA := textI_bound la
          rw [hla.out] at bA
          have bB := textI_bound lb
          rw [hlb.out] at bB
          have bA1 := bA.1
          have bA2 := bA.2
          have bB1 := bB.1
          have bB2 := bB.2
          have cT := hide (Text_any a6 (n + n2) c6 (la ++ lb) w6 (by rw [hlL.out]; omega) hR.out (ht'.out.kept hk6'.out))
          rw [textI_append] at cT
          have cA := hide (fun w1 hk => Text_any a n c la w1 (by rw [hla.out]; omega) (hAS.out.kept hk (by simp)) ((ht'.out.kept hk6'.out).kept hk) : ∀ w1, Kept [] w6 w1 → _)
          have cB := hide (fun w1 hk => Text_any a2 n2 c2 lb w1 (by rw [hlb.out]; omega) (hBS.out.kept hk (by simp)) ((ht'.out.kept hk6'.out).kept hk) : ∀ w1, Kept [] w6 w1 → _)
          have cF := hide (fun w1 q hk (hq : 0 ≤ q ∧ q ≤ 400) => Fits_any a6 (n + n2) c6 (la ++ lb) q w1 (by rw [hlL.out]; omega) (by omega) (hR.out.kept hk (by simp)) ((ht'.out.kept hk6'.out).kept hk) : ∀ w1 (q : Int), Kept [] w6 w1 → 0 ≤ q ∧ q ≤ 400 → _)
          have cS := hide (fun (k : Nat) w1 a' c' hk (hr : Rd w1 a' k 1 (ints .i32 ((la ++ lb).take k))) => Text_any a' k c' ((la ++ lb).take k) w1 (by rw [List.length_take, hlL.out]; omega) hr ((ht'.out.kept hk6'.out).kept hk) : ∀ (k : Nat) w1 a' c', Kept [] w6 w1 → Rd w1 a' k 1 (ints .i32 ((la ++ lb).take k)) → _)
          have cK := hide (fun w1 hk => known_any w1 ((ht'.out.kept hk6'.out).kept hk) : ∀ w1, Kept [] w6 w1 → _)
          have hfit := hide (fitsI_fit (la ++ lb) m m1)
          have hmor := hide (fitsI_more (la ++ lb) m)
          have hmon := hide (fitsI_mono (la ++ lb) m (m + more) (by omega))
          have hle := fitsI_le (la ++ lb) m
          have hle2 := fitsI_le (la ++ lb) (m + more)
          rw [hlL.out] at hmor hle hle2
          generalize textI la = tA at *
          generalize textI lb = tB at *
          clear hAS hBS bT bA bB
          go_wp2_with fail
          refine cT.out.mono ?_
          rintro e w7 ⟨rfl, hk7⟩
          go_wp2_with fail
          refine (cA.out w7 hk7).mono ?_
          rintro e w8 ⟨rfl, hk8⟩
          have hK8 := hk7.trans hk8 (by simp)
          go_wp2_with fail
          refine (cB.out w8 hK8).mono ?_
          rintro e w9 ⟨rfl, hk9⟩
          have hK9 := hK8.trans hk9 (by simp)
          clear hk7 hk8 hK8 hk9 cT cA cB
          go_wp2_with fail
          have cF1 := cF.out w9 m hK9 (by omega)
          obtain ⟨K, hK⟩ : ∃ K, K = fitsI (la ++ lb) m := ⟨_, rfl⟩
          obtain ⟨K2, hK2⟩ : ∃ K2, K2 = fitsI (la ++ lb) (m + more) := ⟨_, rfl⟩
          rw [← hK] at cF1 hfit hmor hmon hle
          rw [← hK2] at hmon hle2
          refine cF1.mono ?_
          rintro e w10 ⟨rfl, hk10⟩
          have hK10 := hK9.trans hk10 (by simp)
          clear cF1 hk10 hK9
          have cF2 := hide (fun w1 hk => cF.out w1 (m + more) hk (by omega) : ∀ w1, Kept [] w6 w1 → _)
          rw [← hK2] at cF2
          obtain ⟨x1, y1, q1, r1⟩ := slice_h a6 (n + n2) c6 K hle hcap
          have cS1 := cS.out K w10 x1 y1 hK10 (r1 w10 _ (hR.out.kept hK10 (by simp)))
          have hfit' := hfit.out
          generalize textI ((la ++ lb).take K) = t1 at *
          clear hfit r1 cF hK hK2
          by_cases hkl : K < n + n2
          · obtain ⟨x2, y2, q2, r2⟩ := slice_h a6 (n + n2) c6 (K + 1) (by omega) hcap
            push_cast at q2
            have cS2 := hide (fun w1 hk => cS.out (K + 1) w1 x2 y2 hk (r2 w1 _ (hR.out.kept hk (by simp))) : ∀ w1, Kept [] w6 w1 → _)
            have hmor' := hmor.out hkl
            generalize textI ((la ++ lb).take (K + 1)) = t2 at *
            clear hmor r2 cS
            have hmon' := hmon.out
            clear hmon
            go_wp2_with fail
            refine cS1.mono ?_
            rintro e w11 ⟨rfl, hk11⟩
            have hK11 := hK10.trans hk11 (by simp)
            clear cS1 hk11 q1
            go_wp2_with fail
            refine (cS2.out w11 hK11).mono ?_
            rintro e w12 ⟨rfl, hk12⟩
            have hK12 := hK11.trans hk12 (by simp)
            clear hk12 q2 cS2
            go_wp2_with fail
            refine (cF2.out w12 hK12).mono ?_
            rintro e w13 ⟨rfl, hk13⟩
            have hK13 := hK12.trans hk13 (by simp)
            go_wp2_with fail
            refine (cK.out w13 hK13).mono ?_
            rintro e w14 ⟨rfl, hk14⟩
            go_wp2_with fail
            go_ret
            exact ⟨rfl, hk6'.out.trans (hK13.trans hk14 (by simp)) (by simp)⟩
          · clear hmor cS
            have hmon' := hmon.out
            clear hmon
            go_wp2_with fail
            refine cS1.mono ?_
            rintro e w11 ⟨rfl, hk11⟩
            have hK11 := hK10.trans hk11 (by simp)
            clear cS1 hk11 q1
            go_wp2_with fail
            refine (cF2.out w11 hK11).mono ?_
            rintro e w13 ⟨rfl, hk13⟩
            have hK13 := hK11.trans hk13 (by simp)
            go_wp2_with fail
            refine (cK.out w13 hK13).mono ?_
            rintro e w14 ⟨rfl, hk14⟩
            go_wp2_with fail
            go_ret
            exact ⟨rfl, hk6'.out.trans (hK13.trans hk14 (by simp)) (by simp)⟩
end Go.Proofs.YtbpnfemcblfknabDoor
