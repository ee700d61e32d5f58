/- The reference of layer 1: Begins. -/
import Derived.Test.YtjcoeapopkkcbaaUtfRef
namespace Go.Proofs.Ytjcoeapopkkcbaa
open Go.RowKit

/-- It returns these two bools, and nothing that was there has changed. -/
def Bool2Kept (a b : Bool) (w : World) (e : Ending) (w' : World) : Prop := e = .returned (.tuple #[.bool a, .bool b]) ∧ Kept [] w w'

theorem ret_bool2 {a b c d : Bool} (h1 : a = c) (h2 : b = d) : Ending.returned (.tuple #[.bool a, .bool b]) = .returned (.tuple #[.bool c, .bool d]) := by rw [h1, h2]
theorem getD_at {l : List Int} {i : Nat} (hi : i < l.length) : l.getD i 0 = l[i] := by simp [List.getD, List.getElem?_eq_getElem hi]

set_option maxHeartbeats 2000000 in
theorem Begins_loop (bb oo cb n : Nat) (l : List Int) (w : World) (hl : ∀ x ∈ l, 0 ≤ x ∧ x ≤ 255) (hr : ∀ j u, (ints .u8 l)[j]? = some u → w.cell? ⟨bb, oo + j, none⟩ = some u)
    (hn : n = 2 ∨ n = 3 ∨ n = 4) (h0 : 0 < l.length) (hln : l.length ≤ n) (hs : sizeI (l.getD 0 0) = n) (hf : ∀ j, 1 ≤ j → j < l.length → furtherB (l.getD j 0) = true)
    (res : Bool) (j0 : Int) (hv0 : 0 ≤ valTo l (firstI n) n)
    (hA : res = true → 0 ≤ j0 ∧ j0 < spanI (n - l.length) ∧ j0 % 64 = 0 ∧ Good n (valTo l (firstI n) n + j0))
    (hB : res = false → ∀ j, 0 ≤ j → j < spanI (n - l.length) → ¬ Good n (valTo l (firstI n) n + j)) :
    Calls Try.prog 28 #[.slice (some ⟨bb, oo, none⟩) l.length cb] w (Bool2Kept res (res && decide (l.length = n)) w) := by
  have h4 : l.length ≤ 4 := by omega
  have hc0 : w.cell? ⟨bb, oo, none⟩ = some (.int .u8 (l.getD 0 0)) := by
    rw [getD_at h0]
    simpa using Rd.at hr 0 h0
  have hb0 := getD_byte hl 0
  have hb0' := hb0.1
  have hb0'' := hb0.2
  clear hb0
  have Hs := hide (fun w' => rsize_any (l.getD 0 0) w' hb0' hb0'')
  rw [hs] at Hs
  have Hv := hide (fun w' (hk : Kept [] w w') => value_any bb oo cb n l w' hl (fun j u hu => hk.cell (hr j u hu) (by simp)) hn h0 h4)
  have hvb := valTo_bound hl (firstI n) (by rcases hn with rfl | rfl | rfl <;> simp [firstI]) n (by omega)
  have hsb := spanI_bound (n - l.length) (by omega)
  have hA' := hide hA
  have hB' := hide hB
  clear hs hA hB
  generalize l.getD 0 0 = x0 at *
  generalize valTo l (firstI n) n = V at *
  have t1 : ((l.length : Int) == 0) = false := beq_eq_false_iff_ne.2 (by omega)
  have t2 : ((n : Int) == 0) = false := beq_eq_false_iff_ne.2 (by omega)
  have t3 : (l.length : Int) ≤ (n : Int) := by omega
  have t4 : ((n : Int) == 1) = false := beq_eq_false_iff_ne.2 (by omega)
  have hspn := hide (show spanI 0 = 1 from rfl)
  have hn' := hide hn
  have hn2 : (2 : Int) ≤ (n : Int) := by omega
  have hn4 : (n : Int) ≤ 4 := by omega
  clear hn
  go_enter Try.func28, Try.ntmps28
  go_wp2_with (go_at_call 36; refine (Hs.out _).mono ?_; rintro e w' ⟨rfl, rfl⟩)
  go_loop [5] (fun i => ∃ k : Nat, 1 ≤ k ∧ k ≤ l.length ∧ i = .int .i64 k) (fun i => l.length - (intOf i).toNat)
  case atStart => exact ⟨1, Nat.le_refl _, by omega, rfl⟩
  case round =>
    obtain ⟨k, hk1, hk, rfl⟩ := hrel
    by_cases hlt : k < l.length
    · have hfk := hf k hk1 hlt
      have hcell : w.cell? ⟨bb, oo + k, none⟩ = some (.int .u8 (l.getD k 0)) := by
        have := Rd.at hr k hlt
        rw [getD_at hlt]
        exact this
      have hbk := getD_byte hl k
      have Hf := hide (fun w' => rfurther_any (l.getD k 0) w' hbk.1 hbk.2)
      rw [hfk] at Hf
      clear hbk hfk
      generalize l.getD k 0 = y at *
      go_wp2_with fail
      refine (Hf.out _).mono ?_
      rintro e w' ⟨rfl, rfl⟩
      go_wp2_with fail
      go_round
      case rel => exact ⟨k + 1, by omega, by omega, by go_num⟩
      case measure => simp [intOf]; omega
    · obtain rfl : k = l.length := by omega
      go_wp2_with fail
      refine (Hv.out _ (Kept.refl _ _)).mono ?_
      rintro e w1 ⟨rfl, hk1w⟩
      go_wp2_with fail
      go_loop [7, 8] (fun s i => ∃ k : Nat, l.length ≤ k ∧ k ≤ n ∧ i = .int .i64 k ∧ s = .int .i64 (spanI (k - l.length))) (fun _ i => n - (intOf i).toNat)
      case atStart => exact ⟨l.length, Nat.le_refl _, hln, rfl, by rw [Nat.sub_self, hspn.out]⟩
      case round =>
        obtain ⟨k, hk1, hk, rfl, rfl⟩ := hrel
        have hbk := spanI_bound (k - l.length) (by omega)
        by_cases hlt : k < n
        · have hsu := hide (show spanI (k + 1 - l.length) = spanI (k - l.length) * 64 by rw [← spanI_succ, show k + 1 - l.length = k - l.length + 1 from by omega])
          generalize spanI (k - l.length) = S at *
          go_wp2_with fail
          go_round
          case rel => exact ⟨k + 1, by omega, by omega, by go_num, by rw [hsu.out]⟩
          case measure => simp [intOf]; omega
        · obtain rfl : k = n := by omega
          generalize spanI (k - l.length) = S at *
          have hb1 := hbk.1
          have hb2 := hbk.2
          have hvb1 := hvb.2
          clear hbk hvb
          go_wp2_with fail
          go_loop [9] (fun i => ∃ q : Int, 0 ≤ q ∧ q ≤ S + 63 ∧ i = .int .i64 q ∧ (res = true → q ≤ j0)) (fun i => (S + 64 - intOf i).toNat)
          case atStart => exact ⟨0, by omega, by omega, rfl, fun h => (hA'.out h).1⟩
          case round =>
            obtain ⟨q, hq0, hq1, rfl, hqj⟩ := hrel
            have hqj' := hide hqj
            clear hqj
            by_cases hlt : q < S
            · have Hr := hide (fun w' => rvalid_any (V + q) w' (by omega) (by omega))
              have Hl := hide (fun w' => rlength_any (V + q) w' (by omega) (by omega))
              have hg : Good k (V + q) → res = true := by
                intro h
                cases res with
                | true => rfl
                | false => exact absurd h (hB'.out rfl q hq0 hlt)
              have hg' := hide hg
              clear hg
              have hnext : ¬ Good k (V + q) → res = true → q + 1 ≤ j0 ∧ (q % 64 = 0 → q + 64 ≤ j0) := by
                intro h1 h2
                obtain ⟨a1, a2, a3, a4⟩ := hA'.out h2
                have hq := hqj'.out h2
                have : q ≠ j0 := by intro e; subst e; exact h1 a4
                omega
              have hnext' := hide hnext
              clear hnext
              cases hvv : validI (V + q) with
              | false =>
                have hng := hide (show ¬ Good k (V + q) from fun h => by rw [h.1] at hvv; cases hvv)
                rw [hvv] at Hr
                clear hvv
                by_cases m1 : q % 64 = 0
                · by_cases m2 : q + 64 < S
                  · go_wp2_with fail
                    refine (Hr.out _).mono ?_
                    rintro e w' ⟨rfl, rfl⟩
                    go_wp2_with fail
                    go_round
                    case rel => exact ⟨q + 63, by omega, by omega, by go_num, fun h => by have := hnext'.out hng.out h; omega⟩
                    case measure => simp [intOf]; omega
                  · go_wp2_with fail
                    refine (Hr.out _).mono ?_
                    rintro e w' ⟨rfl, rfl⟩
                    go_wp2_with fail
                    go_round
                    case rel => exact ⟨q + 1, by omega, by omega, by go_num, fun h => by have := hnext'.out hng.out h; omega⟩
                    case measure => simp [intOf]; omega
                · go_wp2_with fail
                  refine (Hr.out _).mono ?_
                  rintro e w' ⟨rfl, rfl⟩
                  go_wp2_with fail
                  go_round
                  case rel => exact ⟨q + 1, by omega, by omega, by go_num, fun h => by have := hnext'.out hng.out h; omega⟩
                  case measure => simp [intOf]; omega
              | true =>
                rw [hvv] at Hr
                by_cases hll : lengthI (V + q) = k
                · have hrt : res = true := hg'.out ⟨hvv, hll⟩
                  subst hrt
                  rw [hll] at Hl
                  clear hvv hll
                  have hkk : ((k : Int) == (k : Int)) = true := by simp
                  go_wp2_with fail
                  refine (Hr.out _).mono ?_
                  rintro e w' ⟨rfl, rfl⟩
                  go_wp2_with fail
                  refine (Hl.out _).mono ?_
                  rintro e w' ⟨rfl, rfl⟩
                  go_wp2_with fail
                  go_ret2
                  exact ⟨ret_bool2 rfl (by rw [Bool.eq_iff_iff]; simp; omega), hk1w⟩
                · have hng := hide (show ¬ Good k (V + q) from fun h => hll h.2)
                  have hkk : (lengthI (V + q) == (k : Int)) = false := beq_eq_false_iff_ne.2 hll
                  generalize lengthI (V + q) = L at *
                  clear hvv hll
                  by_cases m1 : q % 64 = 0
                  · by_cases m2 : q + 64 < S
                    · go_wp2_with fail
                      refine (Hr.out _).mono ?_
                      rintro e w' ⟨rfl, rfl⟩
                      go_wp2_with fail
                      refine (Hl.out _).mono ?_
                      rintro e w' ⟨rfl, rfl⟩
                      go_wp2_with fail
                      go_round
                      case rel => exact ⟨q + 63, by omega, by omega, by go_num, fun h => by have := hnext'.out hng.out h; omega⟩
                      case measure => simp [intOf]; omega
                    · go_wp2_with fail
                      refine (Hr.out _).mono ?_
                      rintro e w' ⟨rfl, rfl⟩
                      go_wp2_with fail
                      refine (Hl.out _).mono ?_
                      rintro e w' ⟨rfl, rfl⟩
                      go_wp2_with fail
                      go_round
                      case rel => exact ⟨q + 1, by omega, by omega, by go_num, fun h => by have := hnext'.out hng.out h; omega⟩
                      case measure => simp [intOf]; omega
                  · go_wp2_with fail
                    refine (Hr.out _).mono ?_
                    rintro e w' ⟨rfl, rfl⟩
                    go_wp2_with fail
                    refine (Hl.out _).mono ?_
                    rintro e w' ⟨rfl, rfl⟩
                    go_wp2_with fail
                    go_round
                    case rel => exact ⟨q + 1, by omega, by omega, by go_num, fun h => by have := hnext'.out hng.out h; omega⟩
                    case measure => simp [intOf]; omega
            · have hrf : res = false := by
                cases hres : res with
                | false => rfl
                | true =>
                  have := hqj'.out hres
                  have := (hA'.out hres).2.1
                  omega
              subst hrf
              go_wp2_with fail
              go_ret2
              exact ⟨by simp, hk1w⟩
end Go.Proofs.Ytjcoeapopkkcbaa
