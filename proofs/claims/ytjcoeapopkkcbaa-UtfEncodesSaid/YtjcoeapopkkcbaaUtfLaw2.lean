/- The walks of the laws UtfNil, UtfFours and UtfEncodes. -/
import Derived.Test.YtjcoeapopkkcbaaUtfLaw1
import Derived.Deep.RegionWith
namespace Go.Proofs.Ytjcoeapopkkcbaa
open Go.RowKit
set_option linter.unusedVariables false

set_option maxHeartbeats 400000 in
theorem UtfNil_big (a : Option Addr) (n c : Nat) (w : World) (hn : 20 < n) : Calls Try.prog 7 #[.slice a n c] w (BoolKept true w) := by
  go_enter Try.func7, Try.ntmps7
  go_wp2_with fail
  refine (known_any _).mono ?_
  rintro e w1 ⟨rfl, hk⟩
  go_wp2_with fail
  go_ret
  exact ⟨rfl, hk⟩

set_option maxHeartbeats 400000 in
theorem UtfNil_small (bb oo c : Nat) (z : List Int) (w : World) (hr : ∀ j u, (ints .u8 z)[j]? = some u → w.cell? ⟨bb, oo + j, none⟩ = some u) (hn : z.length ≤ 20) : Calls Try.prog 7 #[.slice (some ⟨bb, oo, none⟩) z.length c] w (BoolKept true w) := by
  go_enter Try.func7, Try.ntmps7
  go_wp2_with fail
  go_loop [12] (fun i => ∃ k : Nat, k ≤ z.length ∧ i = .int .i64 k) (fun i => z.length - (intOf i).toNat)
  case atStart => exact ⟨0, Nat.zero_le _, rfl⟩
  case round =>
    obtain ⟨k, hk, rfl⟩ := hrel
    by_cases hlt : k < z.length
    · have hc := Rd.at hr k hlt
      generalize z[k] = v at *
      go_wp2_with fail
      refine (Step_nil v w).mono ?_
      rintro e w' ⟨rfl, rfl⟩
      go_wp2_with fail
      go_round
      case rel => exact ⟨k + 1, by omega, by go_num⟩
      case measure => simp [intOf]; omega
    · obtain rfl : k = z.length := by omega
      go_wp2_with fail
      refine (Feed_nil _ w).mono ?_
      rintro e w' ⟨rfl, rfl⟩
      go_wp2_with fail
      refine (End_nil w).mono ?_
      rintro e w' ⟨rfl, rfl⟩
      go_wp2_with fail
      refine (Pending_nil w).mono ?_
      rintro e w' ⟨rfl, rfl⟩
      go_wp2_with fail
      refine (Copy_nil w).mono ?_
      rintro e w' ⟨rfl, rfl⟩
      go_wp2_with fail
      refine (known_any _).mono ?_
      rintro e w1 ⟨rfl, hk1⟩
      go_wp2_with fail
      go_ret
      exact ⟨rfl, hk1⟩

set_option maxHeartbeats 400000 in
theorem UtfNil_none (a : Option Addr) (c : Nat) (w : World) : Calls Try.prog 7 #[.slice a 0 c] w (BoolKept true w) := by
  go_enter Try.func7, Try.ntmps7
  go_wp2_with fail
  refine wp_loop_rounds 1 ?_
  rw [rounds_succ]
  go_wp2_with fail
  refine (Feed_nil _ w).mono ?_
  rintro e w' ⟨rfl, rfl⟩
  go_wp2_with fail
  refine (End_nil w).mono ?_
  rintro e w' ⟨rfl, rfl⟩
  go_wp2_with fail
  refine (Pending_nil w).mono ?_
  rintro e w' ⟨rfl, rfl⟩
  go_wp2_with fail
  refine (Copy_nil w).mono ?_
  rintro e w' ⟨rfl, rfl⟩
  go_wp2_with fail
  refine (known_any _).mono ?_
  rintro e w1 ⟨rfl, hk1⟩
  go_wp2_with fail
  go_ret
  exact ⟨rfl, hk1⟩

theorem UtfNil_walk (a : Option Addr) (n c : Nat) (z : List Int) (w : World) (hr : Rd w a n 1 (ints .u8 z)) : Calls Try.prog 7 #[.slice a n c] w (BoolKept true w) := by
  have hzl : n = z.length := by have := hr.1; rw [ints_len] at this; omega
  by_cases hn : n ≤ 20
  · subst hzl
    rcases hr.2 with h0 | ⟨bb, oo, rfl, hc⟩
    · have : z = [] := by simpa [ints] using h0
      subst this
      exact UtfNil_none a c w
    · exact UtfNil_small bb oo c z w hc hn
  · exact UtfNil_big a n c w (by omega)

/-- The five slices of UtfFours. -/
def fours (a b c d : Int) : Nat → List Int
  | 0 => [a]
  | 1 => [a, b]
  | 2 => [a, b, c]
  | 3 => [a, b, c, d]
  | _ => [120, a, b, c, d, 121]
theorem fours_byte {a b c d : Int} (ha : 0 ≤ a ∧ a ≤ 255) (hb : 0 ≤ b ∧ b ≤ 255) (hc : 0 ≤ c ∧ c ≤ 255) (hd : 0 ≤ d ∧ d ≤ 255) (k : Nat) : (∀ x ∈ fours a b c d k, 0 ≤ x ∧ x ≤ 255) ∧ (fours a b c d k).length ≤ 6 := by
  unfold fours
  split <;> (constructor <;> (first | (intro x hx; simp at hx; omega) | simp))

set_option maxHeartbeats 1000000 in
theorem UtfFours_walk (a b c d : Int) (w : World) (ha : 0 ≤ a ∧ a ≤ 255) (hb : 0 ≤ b ∧ b ≤ 255) (hc : 0 ≤ c ∧ c ≤ 255) (hd : 0 ≤ d ∧ d ≤ 255) :
    Calls Try.prog 5 #[.int .u8 a, .int .u8 b, .int .u8 c, .int .u8 d] w (BoolKept true w) := by
  have hfb := hide (fours_byte ha hb hc hd)
  clear ha hb hc hd
  go_enter Try.func5, Try.ntmps5
  go_wp2_with fail
  have hgen : ∀ k, k < 5 → ∃ ad n m, (((((((w.alloc (.cells #[.int .u8 a] 5)).alloc (.cells #[.int .u8 a, .int .u8 b] 5)).alloc (.cells #[.int .u8 a, .int .u8 b, .int .u8 c] 5)).alloc (.cells #[.int .u8 a, .int .u8 b, .int .u8 c, .int .u8 d] 5)).alloc (.cells #[.int .u8 120, .int .u8 a, .int .u8 b, .int .u8 c, .int .u8 d, .int .u8 121] 5)).alloc (.cells #[.slice (some ⟨w.heap.size, 0, none⟩) 1 1, .slice (some ⟨w.heap.size + 1, 0, none⟩) 2 2, .slice (some ⟨w.heap.size + 1 + 1, 0, none⟩) 3 3, .slice (some ⟨w.heap.size + 1 + 1 + 1, 0, none⟩) 4 4, .slice (some ⟨w.heap.size + 1 + 1 + 1 + 1, 0, none⟩) 6 6] 22))).cell? ⟨w.heap.size + 1 + 1 + 1 + 1 + 1, k, none⟩ = some (.slice ad n m) ∧ Rd (((((((w.alloc (.cells #[.int .u8 a] 5)).alloc (.cells #[.int .u8 a, .int .u8 b] 5)).alloc (.cells #[.int .u8 a, .int .u8 b, .int .u8 c] 5)).alloc (.cells #[.int .u8 a, .int .u8 b, .int .u8 c, .int .u8 d] 5)).alloc (.cells #[.int .u8 120, .int .u8 a, .int .u8 b, .int .u8 c, .int .u8 d, .int .u8 121] 5)).alloc (.cells #[.slice (some ⟨w.heap.size, 0, none⟩) 1 1, .slice (some ⟨w.heap.size + 1, 0, none⟩) 2 2, .slice (some ⟨w.heap.size + 1 + 1, 0, none⟩) 3 3, .slice (some ⟨w.heap.size + 1 + 1 + 1, 0, none⟩) 4 4, .slice (some ⟨w.heap.size + 1 + 1 + 1 + 1, 0, none⟩) 6 6] 22))) ad n 1 (ints .u8 (fours a b c d k)) := by
    intro k hk
    match k, hk with
    | 0, _ => exact ⟨some ⟨w.heap.size, 0, none⟩, 1, 1, by simp [go_sem], (Rd.block (cur := #[.int .u8 a]) (heap_new_at rfl) rfl).kept ((((((Kept.refl [] _).alloc _).alloc _).alloc _).alloc _).alloc _) (by simp)⟩
    | 1, _ => exact ⟨some ⟨w.heap.size + 1, 0, none⟩, 2, 2, by simp [go_sem], (Rd.block (cur := #[.int .u8 a, .int .u8 b]) (heap_new_at (by simp)) rfl).kept (((((Kept.refl [] _).alloc _).alloc _).alloc _).alloc _) (by simp)⟩
    | 2, _ => exact ⟨some ⟨w.heap.size + 1 + 1, 0, none⟩, 3, 3, by simp [go_sem], (Rd.block (cur := #[.int .u8 a, .int .u8 b, .int .u8 c]) (heap_new_at (by simp)) rfl).kept ((((Kept.refl [] _).alloc _).alloc _).alloc _) (by simp)⟩
    | 3, _ => exact ⟨some ⟨w.heap.size + 1 + 1 + 1, 0, none⟩, 4, 4, by simp [go_sem], (Rd.block (cur := #[.int .u8 a, .int .u8 b, .int .u8 c, .int .u8 d]) (heap_new_at (by simp)) rfl).kept (((Kept.refl [] _).alloc _).alloc _) (by simp)⟩
    | 4, _ => exact ⟨some ⟨w.heap.size + 1 + 1 + 1 + 1, 0, none⟩, 6, 6, by simp [go_sem], (Rd.block (cur := #[.int .u8 120, .int .u8 a, .int .u8 b, .int .u8 c, .int .u8 d, .int .u8 121]) (heap_new_at (by simp)) rfl).kept ((Kept.refl [] _).alloc _) (by simp)⟩
  have hK0 : Kept [] w (((((((w.alloc (.cells #[.int .u8 a] 5)).alloc (.cells #[.int .u8 a, .int .u8 b] 5)).alloc (.cells #[.int .u8 a, .int .u8 b, .int .u8 c] 5)).alloc (.cells #[.int .u8 a, .int .u8 b, .int .u8 c, .int .u8 d] 5)).alloc (.cells #[.int .u8 120, .int .u8 a, .int .u8 b, .int .u8 c, .int .u8 d, .int .u8 121] 5)).alloc (.cells #[.slice (some ⟨w.heap.size, 0, none⟩) 1 1, .slice (some ⟨w.heap.size + 1, 0, none⟩) 2 2, .slice (some ⟨w.heap.size + 1 + 1, 0, none⟩) 3 3, .slice (some ⟨w.heap.size + 1 + 1 + 1, 0, none⟩) 4 4, .slice (some ⟨w.heap.size + 1 + 1 + 1 + 1, 0, none⟩) 6 6] 22))) := ((((((Kept.refl [] w).alloc _).alloc _).alloc _).alloc _).alloc _).alloc _
  have hgen' := hide hgen
  clear hgen
  generalize ((((((w.alloc (.cells #[.int .u8 a] 5)).alloc (.cells #[.int .u8 a, .int .u8 b] 5)).alloc (.cells #[.int .u8 a, .int .u8 b, .int .u8 c] 5)).alloc (.cells #[.int .u8 a, .int .u8 b, .int .u8 c, .int .u8 d] 5)).alloc (.cells #[.int .u8 120, .int .u8 a, .int .u8 b, .int .u8 c, .int .u8 d, .int .u8 121] 5)).alloc (.cells #[.slice (some ⟨w.heap.size, 0, none⟩) 1 1, .slice (some ⟨w.heap.size + 1, 0, none⟩) 2 2, .slice (some ⟨w.heap.size + 1 + 1, 0, none⟩) 3 3, .slice (some ⟨w.heap.size + 1 + 1 + 1, 0, none⟩) 4 4, .slice (some ⟨w.heap.size + 1 + 1 + 1 + 1, 0, none⟩) 6 6] 22)) = W0 at *
  go_loopw [32] (fun i wr => ∃ k : Nat, k ≤ 5 ∧ i = .int .i64 k ∧ Kept [] W0 wr) (fun i _ => 5 - (intOf i).toNat)
  case atStart => exact ⟨0, Nat.zero_le _, rfl, Kept.refl _ _⟩
  case round =>
    obtain ⟨k, hk, rfl, hkk⟩ := hrel
    by_cases hlt : k < 5
    · obtain ⟨ad, n, m, hcell, hrd⟩ := hgen'.out k hlt
      obtain ⟨hby, hle⟩ := hfb.out k
      have hby' := hide hby
      clear hby
      have hcell := hkk.cell hcell (by simp)
      have hrd := hrd.kept hkk (by simp)
      generalize fours a b c d k = l at *
      have hdl := decI_len l
      go_wp2_with fail
      refine (Decode_any _ _ _ l _ hby'.out hrd (by omega)).mono ?_
      rintro e w3 ⟨a3, n3, c3, rfl, ho3, hk3, hat3⟩
      go_wp2_with fail
      refine (rDecode_any _ _ _ l w3 hby'.out (hrd.kept hk3 (by simp)) (by omega)).mono ?_
      rintro e w4 ⟨a4, n4, c4, rfl, ho4, hk4, hat4⟩
      go_wp2_with fail
      refine (Same_self _ _ _ _ _ _ (decI l) w4 (ho3.rd.kept hk4 (by simp)) ho4.rd (by omega)).mono ?_
      rintro e w5 ⟨rfl, hk5⟩
      have K5 := ((hkk.trans hk3 (by simp)).trans hk4 (by simp)).trans hk5 (by simp)
      go_wp2_with fail
      go_roundw
      case rel => exact ⟨k + 1, by omega, by go_num, K5⟩
      case measure => simp [intOf]; omega
    · obtain rfl : k = 5 := by omega
      go_wp2_with fail
      refine (known_any _).mono ?_
      rintro e w6 ⟨rfl, hk6⟩
      go_wp2_with fail
      go_ret
      exact ⟨rfl, (hK0.trans hkk (by simp)).trans hk6 (by simp)⟩

set_option maxHeartbeats 400000 in
theorem UtfEncodes_big (a : Option Addr) (n c : Nat) (w : World) (hn : 100 < n) : Calls Try.prog 6 #[.slice a n c] w (BoolKept true w) := by
  go_enter Try.func6, Try.ntmps6
  go_wp2_with fail
  refine (known_any _).mono ?_
  rintro e w1 ⟨rfl, hk⟩
  go_wp2_with fail
  go_ret
  exact ⟨rfl, hk⟩

set_option maxHeartbeats 1000000 in
theorem UtfEncodes_small (bb oo c : Nat) (z : List Int) (w : World) (hr : ∀ j u, (ints .i32 z)[j]? = some u → w.cell? ⟨bb, oo + j, none⟩ = some u) (hz : ∀ x ∈ z, -2147483648 ≤ x ∧ x ≤ 2147483647) (hn : z.length ≤ 100) :
    Calls Try.prog 6 #[.slice (some ⟨bb, oo, none⟩) z.length c] w (BoolKept true w) := by
  have hrd : Rd w (some ⟨bb, oo, none⟩) z.length 1 (ints .i32 z) := ⟨by rw [ints_len, Nat.mul_one], .inr ⟨bb, oo, rfl, hr⟩⟩
  go_enter Try.func6, Try.ntmps6
  go_wp2_with (at_builtin; refine wpList_app (base := w.heap.size) ?_ rfl elRune rfl rfl (Own.nil _ _ _ _) rfl hrd (ints_one _ _) (by omega) (Nat.le_refl _); intro a2 c2 w2 ho2 hk2 hat2; simp only [Nat.zero_add, List.nil_append] at ho2)
  have hk2' : Kept [] w w2 := hk2
  have hge2 := ho2.ge
  go_loopw [3, 15] (fun v i wr => ∃ (k : Nat) (a : Option Addr) (n c : Nat), k ≤ z.length ∧ i = .int .i64 k ∧ v = .slice a n c ∧ Own wr w2.heap.size 5 a n c 1 (ints .u8 (encI (z.take k))) ∧ Kept [] w2 wr) (fun _ i _ => z.length - (intOf i).toNat)
  case atStart => exact ⟨0, none, 0, 0, Nat.zero_le _, rfl, rfl, Own.nil _ _ _ _, Kept.refl _ _⟩
  case round =>
    obtain ⟨k, a, n, c, hk, rfl, rfl, ho, hkk⟩ := hrel
    have hlen := ho.len
    rw [ints_len] at hlen
    have hfl := encI_len (z.take k)
    have htl : (z.take k).length ≤ k := List.length_take_le _ _
    have hkW := hk2'.trans hkk (by simp)
    by_cases hlt : k < z.length
    · have hc : wr.cell? ⟨bb, oo + k, none⟩ = some (.int .i32 z[k]) := hkW.cell (Rd.at hr k hlt) (by simp)
      have hv := hz z[k] (List.getElem_mem hlt)
      have hts := hide (take_snoc hlt)
      generalize z[k] = v at *
      have hge := ho.ge
      have hbl := bytesI_len v
      have hv1 := hv.1
      have hv2 := hv.2
      clear hv
      have hnn : n ≤ 400 := by omega
      clear hlen hfl htl
      have Hv1 := hide (fun w' => valid_any v w' hv1 hv2)
      have Hv2 := hide (fun w' => rvalid_any v w' hv1 hv2)
      have hsame : (validI v != validI v) = false := by simp
      go_wp2_with fail
      refine (Hv1.out _).mono ?_
      rintro e w' ⟨rfl, rfl⟩
      go_wp2_with fail
      refine (Hv2.out _).mono ?_
      rintro e w' ⟨rfl, rfl⟩
      go_wp2_with fail
      refine (rBytes_any v wr hv1 hv2).mono ?_
      rintro e w3 ⟨a3, n3, c3, rfl, ho3, hk3, hat3⟩
      have hn3 : n3 ≤ 4 := by have := ho3.len; rw [ints_len] at this; omega
      have hs3 := hk3.size
      have hsk := hkk.size
      go_wp2_with (at_builtin; refine wpList_app ?_ rfl elByte rfl rfl (ho.kept hk3 (by simp)) rfl ho3.rd (ints_one _ _) ?o2 ?o3; intro a' c' w4 ho4 hk4 hat4)
      go_roundw
      case rel => exact ⟨k + 1, a', _, c', by omega, by go_num, rfl, by rw [hts.out, encI_snoc, ← ints_append]; exact ho4, (hkk.trans hk3 (by simp)).trans hk4 (fun x hx => .inr (hge x hx).1)⟩
      case measure => simp [intOf]; omega
      case o2 => omega
      case o3 => omega
    · obtain rfl : k = z.length := by omega
      rw [List.take_length] at ho hfl
      have hz' := hide hz
      have ho' := hide ho
      have q0 := hide (conv_bytes wr a n c _ ho.rd)
      have q0' := q0.out
      have hro := ho2.rd.kept hkk (by simp)
      have hrz := hrd.kept hkW (by simp)
      have hEnc := hide (fun W (h : Kept [] wr W) => Encode_any _ _ c2 z W hz (hro.kept h (by simp)) (by omega))
      clear hz ho hfl htl hlen
      go_wp2_with fail
      have qd := conv_bytes wr.drew a n c _ (ho'.out.rd.kept (Kept.refl [] wr).drew (by simp))
      clear q0'
      go_region_with (first
          | (go_at_call 21; refine (hEnc.out wr.drew (Kept.refl [] wr).drew).mono ?_; rintro e w5 ⟨a5, n5, c5, rfl, ho5, hk5, hat5⟩; have hk5' : Kept [] wr w5 := ((Kept.refl [] wr).drew).trans hk5 (by simp); have q5 := conv_bytes w5 a5 n5 c5 _ ho5.rd; have q6 := conv_bytes w5 a n c _ (ho'.out.rd.kept hk5' (by simp)))
          | (go_at_call 10; refine (Same_self _ _ _ _ _ _ z w5 (hro.kept hk5' (by simp)) (hrz.kept hk5' (by simp)) (by omega)).mono ?_; rintro e w6 ⟨rfl, hk6⟩)
          | (go_at_call 9; refine (known_any _).mono ?_; rintro e w7 ⟨rfl, hk7⟩))
      all_goals
        go_wp2_with fail
        go_ret
        exact ⟨rfl, ((hkW.trans hk5' (by simp)).trans hk6 (by simp)).trans hk7 (by simp)⟩

set_option maxHeartbeats 1000000 in
theorem UtfEncodes_none (a : Option Addr) (c : Nat) (w : World) : Calls Try.prog 6 #[.slice a 0 c] w (BoolKept true w) := by
  go_enter Try.func6, Try.ntmps6
  go_wp2_with (at_builtin; refine wpList_app (base := w.heap.size) ?_ rfl elRune rfl rfl (Own.nil _ _ _ _) rfl (Rd.nil _ _ _) (by simp) (by omega) (Nat.le_refl _); intro a2 c2 w2 ho2 hk2 hat2; simp only [Nat.zero_add, List.nil_append] at ho2)
  have hk2' : Kept [] w w2 := hk2
  refine wp_loop_rounds 1 ?_
  rw [rounds_succ]
  go_wp2_with fail
  have qd := conv_bytes w2.drew none 0 0 [] (Rd.nil _ _ _)
  go_region_with (first
    | (go_at_call 21; refine (Encode_none _ _ w2.drew).mono ?_; rintro e w5 ⟨a5, n5, c5, rfl, ho5, hk5, hat5⟩; have hk5' : Kept [] w2 w5 := ((Kept.refl [] w2).drew).trans hk5 (by simp); have q5 := conv_bytes w5 a5 n5 c5 _ ho5.rd; have q6 := conv_bytes w5 none 0 0 [] (Rd.nil _ _ _))
    | (go_at_call 10; refine (Same_nil _ _ _ _ w5).mono ?_; rintro e w6 ⟨rfl, hk6⟩)
    | (go_at_call 9; refine (known_any _).mono ?_; rintro e w7 ⟨rfl, hk7⟩))
  all_goals
    go_wp2_with fail
    go_ret
    exact ⟨rfl, ((hk2'.trans hk5' (by simp)).trans hk6 (by simp)).trans hk7 (by simp)⟩

theorem UtfEncodes_walk (a : Option Addr) (n c : Nat) (z : List Int) (w : World) (hr : Rd w a n 1 (ints .i32 z)) (hz : ∀ x ∈ z, -2147483648 ≤ x ∧ x ≤ 2147483647) : Calls Try.prog 6 #[.slice a n c] w (BoolKept true w) := by
  have hzl : n = z.length := by have := hr.1; rw [ints_len] at this; omega
  by_cases hn : n ≤ 100
  · subst hzl
    rcases hr.2 with h0 | ⟨bb, oo, rfl, hc⟩
    · have : z = [] := by simpa [ints] using h0
      subst this
      exact UtfEncodes_none a c w
    · exact UtfEncodes_small bb oo c z w hc hz hn
  · exact UtfEncodes_big a n c w (by omega)
end Go.Proofs.Ytjcoeapopkkcbaa
