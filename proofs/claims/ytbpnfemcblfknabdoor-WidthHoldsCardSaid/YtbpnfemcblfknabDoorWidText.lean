/- width.Text, width.Fits. -/
import Derived.Test.YtbpnfemcblfknabDoorWidFind
namespace Go.Proofs.YtbpnfemcblfknabDoor
open Go.RowKit
set_option linter.unusedVariables false

theorem fits_drop (l : List Int) (k : Nat) (h : k < l.length) (c : Int) : fitsI (l.drop k) c = if c < colI l[k] then 0 else fitsI (l.drop (k + 1)) (c - colI l[k]) + 1 := by
  rw [List.drop_eq_getElem_cons h]; rfl

set_option maxHeartbeats 2000000 in
theorem Text_cells (b o c : Nat) (l : List Int) (w : World) (hl : l.length < 1000000) (hc : ∀ j u, (ints .i32 l)[j]? = some u → w.cell? ⟨b, o + j, none⟩ = some u) (ht : Tabs w) :
    Calls Tryd.prog 15 #[.slice (some ⟨b, o, none⟩) l.length c] w fun e w' => e = .returned (.int .i64 (textI l)) ∧ Kept [] w w' := by
  have hcol := hide (fun r w1 hk => col_any r w1 (ht.kept hk) : ∀ r w1, Kept [] w w1 → _)
  have hcell := hide (fun i x h => hc i _ (by simp [ints, h]) : ∀ i x, l[i]? = some x → w.cell? ⟨b, o + i, none⟩ = some (.int .i32 x))
  clear hc ht
  generalize hn : l.length = n at *
  have hn' := hide hn
  clear hn
  go_enter Tryd.func15, Tryd.ntmps15
  go_wp2
  go_loopg [3, 8] n (fun kx s3 s8 wr => ∃ k : Nat, s8 = .int .i64 k ∧ s3 = .int .i64 (textI (l.take k)) ∧ k ≤ n ∧ n - k ≤ kx ∧ Kept [] w wr)
  case atStart => exact ⟨0, rfl, rfl, Nat.zero_le _, by omega, Kept.refl _ _⟩
  case round =>
    obtain ⟨k, rfl, rfl, hk, hg, hkr⟩ := hrel
    have hb := textI_bound (l.take k)
    rw [List.length_take, hn'.out, Nat.min_eq_left hk] at hb
    by_cases hlt : k < n
    · have hlt' : k < l.length := by rw [hn'.out]; exact hlt
      have c1 := hkr.cell (hcell.out k l[k] (List.getElem?_eq_getElem hlt')) (by simp)
      have hcl := hcol.out l[k] wr hkr
      have hcb := colI_bound l[k]
      have hT : Hid (textI (l.take (k + 1)) = textI (l.take k) + colI l[k]) := hide (by rw [take_snoc hlt', textI_snoc])
      have hkn : (k : Int) < (n : Int) := by omega
      generalize textI (l.take k) = t at *
      generalize colI l[k] = d at *
      generalize l[k] = x at *
      go_wp2_with (go_at_call 22; refine hcl.mono ?_; rintro e w1 ⟨rfl, hk1⟩)
      go_roundg (n - (k + 1))
      case measure => omega
      case rel => exact ⟨k + 1, by push_cast; rfl, by rw [hT.out], by omega, Nat.le_refl _, hkr.trans hk1 (by simp)⟩
    · obtain rfl : k = n := by omega
      have hT : Hid (textI (l.take k) = textI l) := hide (by rw [← hn'.out, List.take_length])
      generalize textI (l.take k) = t at *
      go_wp2_with fail
      go_ret
      exact ⟨ret_int hT.out, hkr⟩

set_option maxHeartbeats 1000000 in
theorem Text_none (a : Option Addr) (c : Nat) (w : World) :
    Calls Tryd.prog 15 #[.slice a 0 c] w fun e w' => e = .returned (.int .i64 0) ∧ Kept [] w w' := by
  go_enter Tryd.func15, Tryd.ntmps15
  go_wp2
  refine wp_loop_rounds 1 ?_
  rw [rounds_succ]
  go_wp2_with fail
  go_ret
  exact ⟨rfl, Kept.refl _ _⟩

theorem Text_any (a : Option Addr) (n c : Nat) (l : List Int) (w : World) (hl : l.length < 1000000) (hr : Rd w a n 1 (ints .i32 l)) (ht : Tabs w) :
    Calls Tryd.prog 15 #[.slice a n c] w fun e w' => e = .returned (.int .i64 (textI l)) ∧ Kept [] w w' := by
  have hn : n = l.length := by have := hr.1; rw [ints_len] at this; omega
  subst hn
  rcases hr.2 with h0 | ⟨b, o, rfl, hc⟩
  · have : l = [] := by simpa [ints] using h0
    subst this
    exact Text_none a c w
  · exact Text_cells b o c l w hl hc ht

set_option maxHeartbeats 2000000 in
theorem Fits_cells (b o c : Nat) (l : List Int) (m : Int) (w : World) (hl : l.length < 1000000) (hm : -9223372036854775808 ≤ m ∧ m ≤ 9223372036854775807) (hc : ∀ j u, (ints .i32 l)[j]? = some u → w.cell? ⟨b, o + j, none⟩ = some u) (ht : Tabs w) :
    Calls Tryd.prog 16 #[.slice (some ⟨b, o, none⟩) l.length c, .int .i64 m] w fun e w' => e = .returned (.int .i64 (fitsI l m)) ∧ Kept [] w w' := by
  have hcol := hide (fun r w1 hk => col_any r w1 (ht.kept hk) : ∀ r w1, Kept [] w w1 → _)
  have hcell := hide (fun i x h => hc i _ (by simp [ints, h]) : ∀ i x, l[i]? = some x → w.cell? ⟨b, o + i, none⟩ = some (.int .i32 x))
  clear hc ht
  generalize hn : l.length = n at *
  have hn' := hide hn
  clear hn
  go_enter Tryd.func16, Tryd.ntmps16
  go_wp2
  go_loopg [1, 10] n (fun kx s1 s10 wr => ∃ (k : Nat) (q : Int), s10 = .int .i64 k ∧ s1 = .int .i64 q ∧ (-9223372036854775808 ≤ q ∧ q ≤ 9223372036854775807) ∧ Hid (fitsI l m = k + fitsI (l.drop k) q) ∧ k ≤ n ∧ n - k ≤ kx ∧ Kept [] w wr)
  case atStart => exact ⟨0, m, rfl, rfl, hm, hide (by simp), Nat.zero_le _, by omega, Kept.refl _ _⟩
  case round =>
    obtain ⟨k, q, rfl, rfl, hq, hF, hk, hg, hkr⟩ := hrel
    by_cases hlt : k < n
    · have hlt' : k < l.length := by rw [hn'.out]; exact hlt
      have c1 := hkr.cell (hcell.out k l[k] (List.getElem?_eq_getElem hlt')) (by simp)
      have hcl := hcol.out l[k] wr hkr
      have hcb := colI_bound l[k]
      have hD := hide (fits_drop l k hlt' q)
      have hkn : (k : Int) < (n : Int) := by omega
      generalize colI l[k] = d at *
      generalize l[k] = x at *
      by_cases hqd : q < d
      · have hE : Hid ((k : Int) = fitsI l m) := hide (by have := hF.out; have h2 := hD.out; rw [if_pos hqd] at h2; omega)
        clear hF hD
        go_wp2_with (go_at_call 22; refine hcl.mono ?_; rintro e w1 ⟨rfl, hk1⟩)
        go_ret
        exact ⟨ret_int hE.out, hkr.trans hk1 (by simp)⟩
      · have hE : Hid (fitsI l m = (k + 1 : Nat) + fitsI (l.drop (k + 1)) (q - d)) := hide (by have := hF.out; have h2 := hD.out; rw [if_neg hqd] at h2; omega)
        clear hF hD
        go_wp2_with (go_at_call 22; refine hcl.mono ?_; rintro e w1 ⟨rfl, hk1⟩)
        go_roundg (n - (k + 1))
        case measure => omega
        case rel => exact ⟨k + 1, q - d, by push_cast; rfl, rfl, by omega, hE, by omega, Nat.le_refl _, hkr.trans hk1 (by simp)⟩
    · obtain rfl : k = n := by omega
      have hE : Hid ((k : Int) = fitsI l m) := hide (by have := hF.out; rw [List.drop_of_length_le (by rw [hn'.out]; exact Nat.le_refl _)] at this; rw [this]; simp [fitsI])
      clear hF
      go_wp2_with fail
      go_ret
      exact ⟨ret_int hE.out, hkr⟩

set_option maxHeartbeats 1000000 in
theorem Fits_none (a : Option Addr) (c : Nat) (m : Int) (w : World) :
    Calls Tryd.prog 16 #[.slice a 0 c, .int .i64 m] w fun e w' => e = .returned (.int .i64 0) ∧ Kept [] w w' := by
  go_enter Tryd.func16, Tryd.ntmps16
  go_wp2
  refine wp_loop_rounds 1 ?_
  rw [rounds_succ]
  go_wp2_with fail
  go_ret
  exact ⟨rfl, Kept.refl _ _⟩

theorem Fits_any (a : Option Addr) (n c : Nat) (l : List Int) (m : Int) (w : World) (hl : l.length < 1000000) (hm : -9223372036854775808 ≤ m ∧ m ≤ 9223372036854775807) (hr : Rd w a n 1 (ints .i32 l)) (ht : Tabs w) :
    Calls Tryd.prog 16 #[.slice a n c, .int .i64 m] w fun e w' => e = .returned (.int .i64 (fitsI l m)) ∧ Kept [] w w' := by
  have hn : n = l.length := by have := hr.1; rw [ints_len] at this; omega
  subst hn
  rcases hr.2 with h0 | ⟨b, o, rfl, hc⟩
  · have : l = [] := by simpa [ints] using h0
    subst this
    exact Fits_none a c m w
  · exact Fits_cells b o c l m w hl hm hc ht
end Go.Proofs.YtbpnfemcblfknabDoor
