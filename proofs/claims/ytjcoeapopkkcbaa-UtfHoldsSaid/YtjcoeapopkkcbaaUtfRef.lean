/- The reference of layer 1: value and Begins. -/
import Derived.Test.YtjcoeapopkkcbaaUtfEnc2
import Derived.Test.YtjcoeapopkkcbaaUtfRefMath
namespace Go.Proofs.Ytjcoeapopkkcbaa
open Go.RowKit

/-- It returns this int, and nothing that was there has changed. -/
def IntKept (n : Int) (w : World) (e : Ending) (w' : World) : Prop := e = .returned (.int .i64 n) ∧ Kept [] w w'

set_option maxHeartbeats 400000 in
theorem value_2 (bb oo cb : Nat) (l : List Int) (w : World) (hl : ∀ x ∈ l, 0 ≤ x ∧ x ≤ 255) (hr : ∀ j u, (ints .u8 l)[j]? = some u → w.cell? ⟨bb, oo + j, none⟩ = some u)
    (h0 : 0 < l.length) (_h4 : l.length ≤ 4) :
    Calls Try.prog 38 #[.slice (some ⟨bb, oo, none⟩) l.length cb, .int .i64 2] w (IntKept (valTo l 192 2) w) := by
  have hc0 : w.cell? ⟨bb, oo, none⟩ = some (.int .u8 (l.getD 0 0)) := by
    have := Rd.at hr 0 h0
    simpa [List.getD, List.getElem?_eq_getElem h0] using this
  have hb0 := getD_byte hl 0
  have hlt : bb < w.heap.size := World.block_lt_of_cell? w _ hc0
  have hv1 := hide (show valTo l 192 1 = l.getD 0 0 - 192 from rfl)
  generalize l.getD 0 0 = x0 at *
  go_enter Try.func38, Try.ntmps38
  go_wp2_with fail
  go_loopw [6, 7] (fun v i wr => ∃ (k : Nat), 1 ≤ k ∧ k ≤ 2 ∧ i = .int .i64 k ∧ v = .int .i64 (valTo l 192 k) ∧ Kept [] w wr) (fun _ i _ => 2 - (intOf i).toNat)
  case atStart => exact ⟨1, Nat.le_refl _, by omega, rfl, by rw [hv1.out], (Kept.refl _ _).alloc _⟩
  case round =>
    obtain ⟨k, hk1, hk, rfl, rfl, hkk⟩ := hrel
    have hb := valTo_bound hl 192 (by omega) k (by omega)
    by_cases hlt : k < 2
    · have hsucc : valTo l 192 (k + 1) = valTo l 192 k * 64 + (if k < l.length then l.getD k 0 - 128 else 0) := by
        obtain ⟨j, rfl⟩ : ∃ j, k = j + 1 := ⟨k - 1, by omega⟩
        rfl
      by_cases hkl : k < l.length
      · rw [if_pos hkl] at hsucc
        have hcell : wr.cell? ⟨bb, oo + k, none⟩ = some (.int .u8 (l.getD k 0)) := by
          have := hkk.cell (Rd.at hr k hkl) (by simp)
          simpa [List.getD, List.getElem?_eq_getElem hkl] using this
        have hbk := getD_byte hl k
        have hs' := hide hsucc
        clear hsucc
        generalize l.getD k 0 = y at *
        generalize valTo l 192 k = z at *
        go_wp2_with fail
        go_roundw
        case rel => exact ⟨k + 1, by omega, by omega, by go_num, by rw [hs'.out]; go_num, hkk⟩
        case measure => simp [intOf]; omega
      · rw [if_neg hkl] at hsucc
        have hs' := hide hsucc
        clear hsucc
        generalize valTo l 192 k = z at *
        go_wp2_with fail
        go_roundw
        case rel => exact ⟨k + 1, by omega, by omega, by go_num, by rw [hs'.out]; go_num, hkk⟩
        case measure => simp [intOf]; omega
    · obtain rfl : k = 2 := by omega
      go_wp2_with fail
      go_ret
      exact ⟨rfl, hkk⟩

set_option maxHeartbeats 400000 in
theorem value_3 (bb oo cb : Nat) (l : List Int) (w : World) (hl : ∀ x ∈ l, 0 ≤ x ∧ x ≤ 255) (hr : ∀ j u, (ints .u8 l)[j]? = some u → w.cell? ⟨bb, oo + j, none⟩ = some u)
    (h0 : 0 < l.length) (_h4 : l.length ≤ 4) :
    Calls Try.prog 38 #[.slice (some ⟨bb, oo, none⟩) l.length cb, .int .i64 3] w (IntKept (valTo l 224 3) w) := by
  have hc0 : w.cell? ⟨bb, oo, none⟩ = some (.int .u8 (l.getD 0 0)) := by
    have := Rd.at hr 0 h0
    simpa [List.getD, List.getElem?_eq_getElem h0] using this
  have hb0 := getD_byte hl 0
  have hlt : bb < w.heap.size := World.block_lt_of_cell? w _ hc0
  have hv1 := hide (show valTo l 224 1 = l.getD 0 0 - 224 from rfl)
  generalize l.getD 0 0 = x0 at *
  go_enter Try.func38, Try.ntmps38
  go_wp2_with fail
  go_loopw [6, 7] (fun v i wr => ∃ (k : Nat), 1 ≤ k ∧ k ≤ 3 ∧ i = .int .i64 k ∧ v = .int .i64 (valTo l 224 k) ∧ Kept [] w wr) (fun _ i _ => 3 - (intOf i).toNat)
  case atStart => exact ⟨1, Nat.le_refl _, by omega, rfl, by rw [hv1.out], (Kept.refl _ _).alloc _⟩
  case round =>
    obtain ⟨k, hk1, hk, rfl, rfl, hkk⟩ := hrel
    have hb := valTo_bound hl 224 (by omega) k (by omega)
    by_cases hlt : k < 3
    · have hsucc : valTo l 224 (k + 1) = valTo l 224 k * 64 + (if k < l.length then l.getD k 0 - 128 else 0) := by
        obtain ⟨j, rfl⟩ : ∃ j, k = j + 1 := ⟨k - 1, by omega⟩
        rfl
      by_cases hkl : k < l.length
      · rw [if_pos hkl] at hsucc
        have hcell : wr.cell? ⟨bb, oo + k, none⟩ = some (.int .u8 (l.getD k 0)) := by
          have := hkk.cell (Rd.at hr k hkl) (by simp)
          simpa [List.getD, List.getElem?_eq_getElem hkl] using this
        have hbk := getD_byte hl k
        have hs' := hide hsucc
        clear hsucc
        generalize l.getD k 0 = y at *
        generalize valTo l 224 k = z at *
        go_wp2_with fail
        go_roundw
        case rel => exact ⟨k + 1, by omega, by omega, by go_num, by rw [hs'.out]; go_num, hkk⟩
        case measure => simp [intOf]; omega
      · rw [if_neg hkl] at hsucc
        have hs' := hide hsucc
        clear hsucc
        generalize valTo l 224 k = z at *
        go_wp2_with fail
        go_roundw
        case rel => exact ⟨k + 1, by omega, by omega, by go_num, by rw [hs'.out]; go_num, hkk⟩
        case measure => simp [intOf]; omega
    · obtain rfl : k = 3 := by omega
      go_wp2_with fail
      go_ret
      exact ⟨rfl, hkk⟩

set_option maxHeartbeats 400000 in
theorem value_4 (bb oo cb : Nat) (l : List Int) (w : World) (hl : ∀ x ∈ l, 0 ≤ x ∧ x ≤ 255) (hr : ∀ j u, (ints .u8 l)[j]? = some u → w.cell? ⟨bb, oo + j, none⟩ = some u)
    (h0 : 0 < l.length) (_h4 : l.length ≤ 4) :
    Calls Try.prog 38 #[.slice (some ⟨bb, oo, none⟩) l.length cb, .int .i64 4] w (IntKept (valTo l 240 4) w) := by
  have hc0 : w.cell? ⟨bb, oo, none⟩ = some (.int .u8 (l.getD 0 0)) := by
    have := Rd.at hr 0 h0
    simpa [List.getD, List.getElem?_eq_getElem h0] using this
  have hb0 := getD_byte hl 0
  have hlt : bb < w.heap.size := World.block_lt_of_cell? w _ hc0
  have hv1 := hide (show valTo l 240 1 = l.getD 0 0 - 240 from rfl)
  generalize l.getD 0 0 = x0 at *
  go_enter Try.func38, Try.ntmps38
  go_wp2_with fail
  go_loopw [6, 7] (fun v i wr => ∃ (k : Nat), 1 ≤ k ∧ k ≤ 4 ∧ i = .int .i64 k ∧ v = .int .i64 (valTo l 240 k) ∧ Kept [] w wr) (fun _ i _ => 4 - (intOf i).toNat)
  case atStart => exact ⟨1, Nat.le_refl _, by omega, rfl, by rw [hv1.out], (Kept.refl _ _).alloc _⟩
  case round =>
    obtain ⟨k, hk1, hk, rfl, rfl, hkk⟩ := hrel
    have hb := valTo_bound hl 240 (by omega) k (by omega)
    by_cases hlt : k < 4
    · have hsucc : valTo l 240 (k + 1) = valTo l 240 k * 64 + (if k < l.length then l.getD k 0 - 128 else 0) := by
        obtain ⟨j, rfl⟩ : ∃ j, k = j + 1 := ⟨k - 1, by omega⟩
        rfl
      by_cases hkl : k < l.length
      · rw [if_pos hkl] at hsucc
        have hcell : wr.cell? ⟨bb, oo + k, none⟩ = some (.int .u8 (l.getD k 0)) := by
          have := hkk.cell (Rd.at hr k hkl) (by simp)
          simpa [List.getD, List.getElem?_eq_getElem hkl] using this
        have hbk := getD_byte hl k
        have hs' := hide hsucc
        clear hsucc
        generalize l.getD k 0 = y at *
        generalize valTo l 240 k = z at *
        go_wp2_with fail
        go_roundw
        case rel => exact ⟨k + 1, by omega, by omega, by go_num, by rw [hs'.out]; go_num, hkk⟩
        case measure => simp [intOf]; omega
      · rw [if_neg hkl] at hsucc
        have hs' := hide hsucc
        clear hsucc
        generalize valTo l 240 k = z at *
        go_wp2_with fail
        go_roundw
        case rel => exact ⟨k + 1, by omega, by omega, by go_num, by rw [hs'.out]; go_num, hkk⟩
        case measure => simp [intOf]; omega
    · obtain rfl : k = 4 := by omega
      go_wp2_with fail
      go_ret
      exact ⟨rfl, hkk⟩

theorem value_any (bb oo cb n : Nat) (l : List Int) (w : World) (hl : ∀ x ∈ l, 0 ≤ x ∧ x ≤ 255) (hr : ∀ j u, (ints .u8 l)[j]? = some u → w.cell? ⟨bb, oo + j, none⟩ = some u)
    (hn : n = 2 ∨ n = 3 ∨ n = 4) (h0 : 0 < l.length) (_h4 : l.length ≤ 4) :
    Calls Try.prog 38 #[.slice (some ⟨bb, oo, none⟩) l.length cb, .int .i64 n] w (IntKept (valTo l (firstI n) n) w) := by
  rcases hn with rfl | rfl | rfl
  · exact value_2 bb oo cb l w hl hr h0 _h4
  · exact value_3 bb oo cb l w hl hr h0 _h4
  · exact value_4 bb oo cb l w hl hr h0 _h4
end Go.Proofs.Ytjcoeapopkkcbaa
