/- Layer 1: the bytes of runes. -/
import Derived.Test.YtjcoeapopkkcbaaUtfSame
namespace Go.Proofs.Ytjcoeapopkkcbaa
open Go.RowKit

set_option maxHeartbeats 400000 in
theorem appendBytes_one (base : Nat) (a : Option Addr) (n c : Nat) (l : List Int) (r : Int) (w : World) (hown : Own w base 5 a n c 1 (ints .u8 l)) (hbase : base ≤ w.heap.size) (hn : n ≤ 1000000)
    (hv : validI r = true) (h0 : 0 ≤ r) (h1 : r < 128) :
    Calls Try.prog 30 #[.slice a n c, .int .i32 r] w (SliceRet 5 .u8 base (blk a) w a (l ++ [r])) := by
  have Hv := hide (valid_any r w (by omega) (by omega))
  rw [hv] at Hv
  clear hv
  go_enter Try.func30, Try.ntmps30
  go_wp2_with fail
  refine Hv.out.mono ?_
  rintro e w1 ⟨rfl, rfl⟩
  go_wp2_with (at_builtin; refine wpList_app ?_ rfl elByte rfl rfl (hown.alloc _) rfl (Rd.block (heap_alloc_new w _) rfl) ?o1 ?o2 ?o3; intro a' c' w2 ho2 hk2 hat2)
  go_ret
  have hk3 : Kept (blk a) w w2 := ((Kept.refl (blk a) w).alloc _).trans hk2 (fun x hx => .inl hx)
  exact ⟨a', _, c', rfl, by simpa [ints] using ho2, hk3, fun g hg => (hat2 g hg).imp id (fun h => by simp at h; omega)⟩
  case o1 => simp [Value.oneCell']
  case o2 => simp; omega
  case o3 => simp; omega

set_option maxHeartbeats 400000 in
theorem appendBytes_two (base : Nat) (a : Option Addr) (n c : Nat) (l : List Int) (r : Int) (w : World) (hown : Own w base 5 a n c 1 (ints .u8 l)) (hbase : base ≤ w.heap.size) (hn : n ≤ 1000000)
    (hv : validI r = true) (h0 : 128 ≤ r) (h1 : r < 2048) :
    Calls Try.prog 30 #[.slice a n c, .int .i32 r] w (SliceRet 5 .u8 base (blk a) w a (l ++ [192 + r / 64, 128 + r % 64])) := by
  have Hv := hide (valid_any r w (by omega) (by omega))
  rw [hv] at Hv
  clear hv
  have Hf1 := hide (fun w' => further_any r w' (by omega) (by omega))
  have e1 := u8_or192 (r / 64) (by omega) (by omega)
  go_enter Try.func30, Try.ntmps30
  go_wp2_with fail
  refine Hv.out.mono ?_
  rintro e w1 ⟨rfl, rfl⟩
  go_wp2_with fail
  refine (Hf1.out _).mono ?_
  rintro e w1 ⟨rfl, rfl⟩
  go_wp2_with (at_builtin; refine wpList_app ?_ rfl elByte rfl rfl (hown.alloc _) rfl (Rd.block (heap_alloc_new w _) rfl) ?o1 ?o2 ?o3; intro a' c' w2 ho2 hk2 hat2)
  go_ret
  have hk3 : Kept (blk a) w w2 := ((Kept.refl (blk a) w).alloc _).trans hk2 (fun x hx => .inl hx)
  exact ⟨a', _, c', rfl, by simpa [ints] using ho2, hk3, fun g hg => (hat2 g hg).imp id (fun h => by simp at h; omega)⟩
  case o1 => simp [Value.oneCell']
  case o2 => simp; omega
  case o3 => simp; omega

set_option maxHeartbeats 400000 in
theorem appendBytes_three (base : Nat) (a : Option Addr) (n c : Nat) (l : List Int) (r : Int) (w : World) (hown : Own w base 5 a n c 1 (ints .u8 l)) (hbase : base ≤ w.heap.size) (hn : n ≤ 1000000)
    (hv : validI r = true) (h0 : 2048 ≤ r) (h1 : r < 65536) :
    Calls Try.prog 30 #[.slice a n c, .int .i32 r] w (SliceRet 5 .u8 base (blk a) w a (l ++ [224 + r / 4096, 128 + r / 64 % 64, 128 + r % 64])) := by
  have Hv := hide (valid_any r w (by omega) (by omega))
  rw [hv] at Hv
  clear hv
  have Hf1 := hide (fun w' => further_any r w' (by omega) (by omega))
  have Hf2 := hide (fun w' => further_any (r / 64) w' (by omega) (by omega))
  have e1 := u8_or224 (r / 4096) (by omega) (by omega)
  go_enter Try.func30, Try.ntmps30
  go_wp2_with fail
  refine Hv.out.mono ?_
  rintro e w1 ⟨rfl, rfl⟩
  go_wp2_with fail
  refine (Hf2.out _).mono ?_
  rintro e w1 ⟨rfl, rfl⟩
  go_wp2_with fail
  refine (Hf1.out _).mono ?_
  rintro e w1 ⟨rfl, rfl⟩
  go_wp2_with (at_builtin; refine wpList_app ?_ rfl elByte rfl rfl (hown.alloc _) rfl (Rd.block (heap_alloc_new w _) rfl) ?o1 ?o2 ?o3; intro a' c' w2 ho2 hk2 hat2)
  go_ret
  have hk3 : Kept (blk a) w w2 := ((Kept.refl (blk a) w).alloc _).trans hk2 (fun x hx => .inl hx)
  exact ⟨a', _, c', rfl, by simpa [ints] using ho2, hk3, fun g hg => (hat2 g hg).imp id (fun h => by simp at h; omega)⟩
  case o1 => simp [Value.oneCell']
  case o2 => simp; omega
  case o3 => simp; omega

set_option maxHeartbeats 400000 in
theorem appendBytes_four (base : Nat) (a : Option Addr) (n c : Nat) (l : List Int) (r : Int) (w : World) (hown : Own w base 5 a n c 1 (ints .u8 l)) (hbase : base ≤ w.heap.size) (hn : n ≤ 1000000)
    (hv : validI r = true) (h0 : 65536 ≤ r) (h1 : r ≤ 1114111) :
    Calls Try.prog 30 #[.slice a n c, .int .i32 r] w (SliceRet 5 .u8 base (blk a) w a (l ++ [240 + r / 262144, 128 + r / 4096 % 64, 128 + r / 64 % 64, 128 + r % 64])) := by
  have Hv := hide (valid_any r w (by omega) (by omega))
  rw [hv] at Hv
  clear hv
  have Hf1 := hide (fun w' => further_any r w' (by omega) (by omega))
  have Hf2 := hide (fun w' => further_any (r / 64) w' (by omega) (by omega))
  have Hf3 := hide (fun w' => further_any (r / 4096) w' (by omega) (by omega))
  have e1 := u8_or240 (r / 262144) (by omega) (by omega)
  go_enter Try.func30, Try.ntmps30
  go_wp2_with fail
  refine Hv.out.mono ?_
  rintro e w1 ⟨rfl, rfl⟩
  go_wp2_with fail
  refine (Hf3.out _).mono ?_
  rintro e w1 ⟨rfl, rfl⟩
  go_wp2_with fail
  refine (Hf2.out _).mono ?_
  rintro e w1 ⟨rfl, rfl⟩
  go_wp2_with fail
  refine (Hf1.out _).mono ?_
  rintro e w1 ⟨rfl, rfl⟩
  go_wp2_with (at_builtin; refine wpList_app ?_ rfl elByte rfl rfl (hown.alloc _) rfl (Rd.block (heap_alloc_new w _) rfl) ?o1 ?o2 ?o3; intro a' c' w2 ho2 hk2 hat2)
  go_ret
  have hk3 : Kept (blk a) w w2 := ((Kept.refl (blk a) w).alloc _).trans hk2 (fun x hx => .inl hx)
  exact ⟨a', _, c', rfl, by simpa [ints] using ho2, hk3, fun g hg => (hat2 g hg).imp id (fun h => by simp at h; omega)⟩
  case o1 => simp [Value.oneCell']
  case o2 => simp; omega
  case o3 => simp; omega

set_option maxHeartbeats 400000 in
theorem appendBytes_bad (base : Nat) (a : Option Addr) (n c : Nat) (l : List Int) (r : Int) (w : World) (hown : Own w base 5 a n c 1 (ints .u8 l)) (hbase : base ≤ w.heap.size) (hn : n ≤ 1000000)
    (hv : validI r = false) (h0 : -2147483648 ≤ r) (h1 : r ≤ 2147483647) :
    Calls Try.prog 30 #[.slice a n c, .int .i32 r] w (SliceRet 5 .u8 base (blk a) w a (l ++ [239, 191, 189])) := by
  have Hv := hide (valid_any r w (by omega) (by omega))
  rw [hv] at Hv
  clear hv
  have Hf1 := hide (fun w' => further_any 65533 w' (by omega) (by omega))
  have Hf2 := hide (fun w' => further_any 1023 w' (by omega) (by omega))
  have e1 := u8_or224 15 (by omega) (by omega)
  go_enter Try.func30, Try.ntmps30
  go_wp2_with fail
  refine Hv.out.mono ?_
  rintro e w1 ⟨rfl, rfl⟩
  go_wp2_with fail
  refine (Hf2.out _).mono ?_
  rintro e w1 ⟨rfl, rfl⟩
  go_wp2_with fail
  refine (Hf1.out _).mono ?_
  rintro e w1 ⟨rfl, rfl⟩
  go_wp2_with (at_builtin; refine wpList_app ?_ rfl elByte rfl rfl (hown.alloc _) rfl (Rd.block (heap_alloc_new w _) rfl) ?o1 ?o2 ?o3; intro a' c' w2 ho2 hk2 hat2)
  go_ret
  have hk3 : Kept (blk a) w w2 := ((Kept.refl (blk a) w).alloc _).trans hk2 (fun x hx => .inl hx)
  exact ⟨a', _, c', rfl, by simpa [ints] using ho2, hk3, fun g hg => (hat2 g hg).imp id (fun h => by simp at h; omega)⟩
  case o1 => simp [Value.oneCell']
  case o2 => simp; omega
  case o3 => simp; omega
end Go.Proofs.Ytjcoeapopkkcbaa
