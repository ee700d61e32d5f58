/- Layer 1: Encode; the bytes of a rune in the reference. -/
import Derived.Test.YtjcoeapopkkcbaaUtfEnc
namespace Go.Proofs.Ytjcoeapopkkcbaa
open Go.RowKit

theorem appendBytes_any (base : Nat) (a : Option Addr) (n c : Nat) (l : List Int) (r : Int) (w : World) (hown : Own w base 5 a n c 1 (ints .u8 l)) (hbase : base ≤ w.heap.size) (hn : n ≤ 1000000) (h0 : -2147483648 ≤ r) (h1 : r ≤ 2147483647) :
    Calls Try.prog 30 #[.slice a n c, .int .i32 r] w (SliceRet 5 .u8 base (blk a) w a (l ++ bytesI r)) := by
  unfold bytesI
  by_cases hv : validI r = true
  · rw [if_pos hv]
    have hv' : 0 ≤ r ∧ r ≤ 1114111 ∧ (r < 55296 ∨ 57343 < r) := by simpa [validI] using hv
    unfold bytes0
    by_cases g1 : r < 128
    · rw [if_pos g1]
      exact appendBytes_one base a n c l r w hown hbase hn hv (by omega) g1
    · rw [if_neg g1]
      by_cases g2 : r < 2048
      · rw [if_pos g2]
        exact appendBytes_two base a n c l r w hown hbase hn hv (by omega) g2
      · rw [if_neg g2]
        by_cases g3 : r < 65536
        · rw [if_pos g3]
          exact appendBytes_three base a n c l r w hown hbase hn hv (by omega) g3
        · rw [if_neg g3]
          exact appendBytes_four base a n c l r w hown hbase hn hv (by omega) (by omega)
  · rw [if_neg hv]
    exact appendBytes_bad base a n c l r w hown hbase hn (by simpa using hv) h0 h1

set_option maxHeartbeats 400000 in
theorem Encode_some (bb oo cb : Nat) (rs : List Int) (w : World) (hrs : ∀ x ∈ rs, -2147483648 ≤ x ∧ x ≤ 2147483647)
    (hr : ∀ j u, (ints .i32 rs)[j]? = some u → w.cell? ⟨bb, oo + j, none⟩ = some u) (hn : rs.length ≤ 100000) :
    Calls Try.prog 21 #[.slice (some ⟨bb, oo, none⟩) rs.length cb] w (SliceRet 5 .u8 w.heap.size [] w none (encI rs)) := by
  go_enter Try.func21, Try.ntmps21
  go_wp2_with fail
  go_loopw [3, 8] (fun v i wr => ∃ (k : Nat) (a : Option Addr) (n c : Nat), k ≤ rs.length ∧ i = .int .i64 k ∧ v = .slice a n c ∧ Own wr w.heap.size 5 a n c 1 (ints .u8 (encI (rs.take k))) ∧ Kept [] w wr) (fun _ i _ => rs.length - (intOf i).toNat)
  case atStart => exact ⟨0, none, 0, 0, Nat.zero_le _, rfl, rfl, Own.nil _ _ _ _, Kept.refl _ _⟩
  case round =>
    obtain ⟨k, a, n, c, hk, rfl, rfl, ho, hkk⟩ := hrel
    have hlen := ho.len
    rw [ints_len] at hlen
    have hfl := encI_len (rs.take k)
    have htl : (rs.take k).length ≤ k := List.length_take_le _ _
    by_cases hlt : k < rs.length
    · have hc : wr.cell? ⟨bb, oo + k, none⟩ = some (.int .i32 rs[k]) := hkk.cell (Rd.at hr k hlt) (by simp)
      have hv := hrs rs[k] (List.getElem_mem hlt)
      have hts := hide (take_snoc hlt)
      generalize rs[k] = v at *
      have hge := ho.ge
      have h1 := hide (appendBytes_any w.heap.size a n c (encI (rs.take k)) v wr ho hkk.size (by omega) hv.1 hv.2)
      have ho' := hide ho
      clear ho hlen hfl htl hv
      go_wp2_with fail
      refine h1.out.mono ?_
      rintro e w1 ⟨a1, n1, c1, rfl, ho1, hk1, hat1⟩
      rw [← encI_snoc, ← hts.out] at ho1
      go_wp2_with fail
      go_roundw
      case rel => exact ⟨k + 1, a1, n1, c1, by omega, by go_num, rfl, ho1, hkk.trans hk1 (fun x hx => .inr (hge x hx).1)⟩
      case measure => simp [intOf]; omega
    · obtain rfl : k = rs.length := by omega
      rw [List.take_length] at ho
      have hat := hide (fun g hg => (ho.ge g hg).1)
      have ho' := hide ho
      clear ho hfl htl hlen
      go_wp2_with fail
      go_ret
      exact ⟨a, n, c, rfl, ho'.out, hkk, fun g hg => .inr (hat.out g hg)⟩

set_option maxHeartbeats 400000 in
theorem Encode_none (ab : Option Addr) (cb : Nat) (w : World) :
    Calls Try.prog 21 #[.slice ab 0 cb] w (SliceRet 5 .u8 w.heap.size [] w none []) := by
  go_enter Try.func21, Try.ntmps21
  go_wp2_with fail
  refine wp_loop_rounds 1 ?_
  rw [rounds_succ]
  go_wp2_with fail
  go_ret
  exact ⟨none, 0, 0, rfl, Own.nil _ _ _ _, Kept.refl _ _, by simp [blk]⟩

theorem Encode_any (ab : Option Addr) (nb cb : Nat) (rs : List Int) (w : World) (hrs : ∀ x ∈ rs, -2147483648 ≤ x ∧ x ≤ 2147483647)
    (hr : Rd w ab nb 1 (ints .i32 rs)) (hn : rs.length ≤ 100000) :
    Calls Try.prog 21 #[.slice ab nb cb] w (SliceRet 5 .u8 w.heap.size [] w none (encI rs)) := by
  have hl : nb = rs.length := by have := hr.1; rw [ints_len] at this; omega
  subst hl
  rcases hr.2 with h0 | ⟨bb, oo, rfl, hc⟩
  · have : rs = [] := by simpa [ints] using h0
    subst this
    exact Encode_none ab cb w
  · exact Encode_some bb oo cb rs w hrs hc hn

set_option maxHeartbeats 400000 in
theorem rBytes_valid (r : Int) (w : World) (hv : validI r = true) :
    Calls Try.prog 20 #[.int .i32 r] w (SliceRet 5 .u8 w.heap.size [] w none (bytes0 r)) := by
  have hv' : 0 ≤ r ∧ r ≤ 1114111 ∧ (r < 55296 ∨ 57343 < r) := by simpa [validI] using hv
  have Hv := hide (rvalid_any r w (by omega) (by omega))
  rw [hv] at Hv
  clear hv
  have h0 := hv'.1
  have h1 := hv'.2.1
  clear hv'
  unfold bytes0
  by_cases g1 : r < 128
  · rw [if_pos g1]
    go_enter Try.func20, Try.ntmps20
    go_wp2_with fail
    refine Hv.out.mono ?_
    rintro e w1 ⟨rfl, rfl⟩
    go_wp2_with fail
    go_ret
    exact ⟨_, _, _, rfl, Own.of_block (Nat.le_refl _) (heap_alloc_new w _) rfl (by unfold maxLen; omega), (Kept.refl _ _).alloc _, by simp [blk]⟩
  · rw [if_neg g1]
    by_cases g2 : r < 2048
    · rw [if_pos g2]
      go_enter Try.func20, Try.ntmps20
      go_wp2_with fail
      refine Hv.out.mono ?_
      rintro e w1 ⟨rfl, rfl⟩
      go_wp2_with fail
      go_ret
      exact ⟨_, _, _, rfl, Own.of_block (Nat.le_refl _) (heap_alloc_new w _) rfl (by unfold maxLen; omega), (Kept.refl _ _).alloc _, by simp [blk]⟩
    · rw [if_neg g2]
      by_cases g3 : r < 65536
      · rw [if_pos g3]
        go_enter Try.func20, Try.ntmps20
        go_wp2_with fail
        refine Hv.out.mono ?_
        rintro e w1 ⟨rfl, rfl⟩
        go_wp2_with fail
        go_ret
        exact ⟨_, _, _, rfl, Own.of_block (Nat.le_refl _) (heap_alloc_new w _) rfl (by unfold maxLen; omega), (Kept.refl _ _).alloc _, by simp [blk]⟩
      · rw [if_neg g3]
        go_enter Try.func20, Try.ntmps20
        go_wp2_with fail
        refine Hv.out.mono ?_
        rintro e w1 ⟨rfl, rfl⟩
        go_wp2_with fail
        go_ret
        exact ⟨_, _, _, rfl, Own.of_block (Nat.le_refl _) (heap_alloc_new w _) rfl (by unfold maxLen; omega), (Kept.refl _ _).alloc _, by simp [blk]⟩

set_option maxHeartbeats 400000 in
theorem rBytes_bad (r : Int) (w : World) (hv : validI r = false) (h0 : -2147483648 ≤ r) (h1 : r ≤ 2147483647) :
    Calls Try.prog 20 #[.int .i32 r] w (SliceRet 5 .u8 w.heap.size [] w none (bytes0 65533)) := by
  have Hv := hide (rvalid_any r w h0 h1)
  rw [hv] at Hv
  clear hv
  have Hb := hide (rBytes_valid 65533 w rfl)
  go_enter Try.func20, Try.ntmps20
  go_wp2_with fail
  refine Hv.out.mono ?_
  rintro e w1 ⟨rfl, rfl⟩
  go_wp2_with fail
  refine Hb.out.mono ?_
  rintro e w1 ⟨a1, n1, c1, rfl, ho1, hk1, hat1⟩
  go_wp2_with fail
  go_ret
  exact ⟨a1, n1, c1, rfl, ho1, hk1, hat1⟩

theorem rBytes_any (r : Int) (w : World) (h0 : -2147483648 ≤ r) (h1 : r ≤ 2147483647) :
    Calls Try.prog 20 #[.int .i32 r] w (SliceRet 5 .u8 w.heap.size [] w none (bytesI r)) := by
  unfold bytesI
  by_cases hv : validI r = true
  · rw [if_pos hv]
    exact rBytes_valid r w hv
  · rw [if_neg hv]
    exact rBytes_bad r w (by simpa using hv) h0 h1
end Go.Proofs.Ytjcoeapopkkcbaa
