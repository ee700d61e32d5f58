/- The decoder of layer 1: Pending, Copy, Decode. -/
import Derived.Test.YtjcoeapopkkcbaaUtfStep
import Derived.StillTailTactics
import Derived.Deep.AppendLies
import Derived.Deep.RegionLaw
namespace Go.Proofs.Ytjcoeapopkkcbaa
open Go.RowKit

theorem Dec.rd {w : World} {b o : Nat} {p : List Int} (h : Dec w b o p) (hp : p.length ≤ 3) : Rd w (some ⟨b, o, none⟩) p.length 1 (ints .u8 p) := by
  refine ⟨by simp [ints], .inr ⟨b, o, rfl, fun j u hu => ?_⟩⟩
  simp only [ints, List.getElem?_map, Option.map_eq_some_iff] at hu
  obtain ⟨x, hx, rfl⟩ := hu
  have hj : j < p.length := by
    rcases Nat.lt_or_ge j p.length with h | h
    · exact h
    · rw [List.getElem?_eq_none h] at hx; cases hx
  have hg : p.getD j 0 = x := by simp [List.getD, hx]
  match j, hj with
  | 0, _ => rw [← hg]; exact h.c0
  | 1, _ => rw [← hg]; exact h.c1
  | 2, _ => rw [← hg]; exact h.c2
  | j + 3, hj => omega

set_option maxHeartbeats 400000 in
theorem Pending_any (b o : Nat) (p : List Int) (w : World) (hd : Dec w b o p) (hp : p.length ≤ 3) :
    Calls Try.prog 16 #[.pointer (some ⟨b, o, none⟩)] w (SliceRet 5 .u8 w.heap.size [] w none p) := by
  have hr := hide (hd.rd hp)
  obtain ⟨c0, c1, c2, c3, f0, f1, f2, f3⟩ := hd
  have q0 : (0 : Int) ≤ (p.length : Int) := by omega
  have q1 : (p.length : Int) ≤ 3 := by omega
  go_enter Try.func16, Try.ntmps16
  go_wp2_with fail
  go_still_tail 8, (by kernel_rfl)
  change wpList _ _ _ _ _ w.drew
  go_wp2_with (at_builtin; refine wpList_app (b := some ⟨b, o, none⟩) (base := w.heap.size) ?_ rfl elByte rfl rfl (Own.nil _ _ _ _) rfl (show Rd w.drew _ _ _ _ from hr.out) (ints_one _ _) ?o2 ?o3; intro a' c' w2 ho2 hk2 hat2)
  go_ret
  have hk3 : Kept [] w w2 := ((Kept.refl [] w).drew).trans hk2 (by simp [blk])
  exact ⟨a', _, c', rfl, by simpa using ho2, hk3, fun g hg => (hat2 g hg).imp id id⟩
  case o2 => simp; omega
  case o3 => simp

theorem Dec.new (w : World) (t : TypeId) : Dec (w.alloc (.cells #[.int .u8 0, .int .u8 0, .int .u8 0, .int .i64 0] t)) w.heap.size 0 [] := by
  constructor <;> simp [go_sem]

set_option maxHeartbeats 400000 in
theorem Copy_any (b o : Nat) (p : List Int) (w : World) (hd : Dec w b o p) :
    Calls Try.prog 13 #[.pointer (some ⟨b, o, none⟩)] w fun e w' => e = .returned (.pointer (some ⟨w.heap.size, 0, none⟩)) ∧ Kept [] w w' ∧ Dec w' w.heap.size 0 p ∧ w.heap.size < w'.heap.size := by
  obtain ⟨c0, c1, c2, c3, f0, f1, f2, f3⟩ := hd
  go_enter Try.func13, Try.ntmps13
  go_wp2
  go_ret
  refine ⟨rfl, (Kept.refl _ _).alloc _, ?_, by simp⟩
  constructor <;> simp [go_sem]

set_option maxHeartbeats 400000 in
theorem Decode_any (ab : Option Addr) (nb cb : Nat) (bs : List Int) (w : World) (hbs : ∀ x ∈ bs, 0 ≤ x ∧ x ≤ 255)
    (hr : Rd w ab nb 1 (ints .u8 bs)) (hn : bs.length ≤ 100000) :
    Calls Try.prog 11 #[.slice ab nb cb] w (SliceRet 21 .i32 w.heap.size [] w none (decI bs)) := by
  have hfl := feedR_len bs []
  have h1 := hide (fun t => Feed_any w.heap.size 0 [] ab nb cb bs _ (Dec.new w t) True.intro hbs (hr.kept ((Kept.refl [] w).alloc _) (by simp)) (by intro hne h; have := hr.lt (ints_ne hne) _ h; omega) hn)
  have h2 := hide (fun base a n c l p w' => appendEnd_any w.heap.size 0 base a n c l p w')
  go_enter Try.func11, Try.ntmps11
  go_wp2_with fail
  refine (h1.out _).mono ?_
  rintro e w1 ⟨⟨a1, n1, c1, rfl, ho1, hk1, hat1⟩, hd1, hw1⟩
  have hge := ho1.ge
  have hn1 : n1 ≤ 200000 := by have := ho1.len; simp [ints_len] at this; omega
  have hs1 := hk1.size
  go_wp2_with fail
  refine (h2.out _ a1 n1 c1 _ _ w1 hd1 ho1 (by intro h; have := (hge _ h).1; simp at this; omega) hs1 (by omega)).mono ?_
  rintro e w2 ⟨⟨a2, n2, c2, rfl, ho2, hk2, hat2⟩, hd2, hw2⟩
  go_wp2_with fail
  go_ret
  have hge2 := ho2.ge
  refine ⟨a2, n2, c2, rfl, ho2.base (by simp), ?_, fun g hg => .inr (by have := (hge2 g hg).1; simp at this; omega)⟩
  refine (((Kept.refl [] w).alloc _).trans hk1 ?_).trans hk2 ?_
  · intro x hx; simp [blk] at hx; exact .inr (by omega)
  · intro x hx; simp at hx; right; rcases hx with rfl | hx; omega; have := (hge x hx).1; simp at this; omega
end Go.Proofs.Ytjcoeapopkkcbaa
