/- The examples of the chapter. -/
import Derived.Test.YtbpnfemcblfknabDoorWidRef
import Derived.Test.YtbpnfemcblfknabDoorWidText
import Derived.Deep.RegionHeld3
import Derived.Deep.Cut
import Derived.IntWalk
namespace Go.Proofs.YtbpnfemcblfknabDoor
open Go.RowKit
set_option linter.unusedVariables false

def knownT : List (Int × Int) := [(0x41, 1), (0x1f, -1), (0x7f, -1), (0x9f, -1), (0xa0, 1), (0x301, 0), (0x4e00, 2), (0x1f600, 2), (0xfffd, 1), (0xd800, -1), (0x302a, 0), (0x3029, 2), (0x3030, 2), (0x303f, 1), (0x200b, 0), (0x2fffe, 1), (0x10ffff, 1), (-1, -1)]
theorem known_len : knownT.length = 18 := rfl
theorem known_of : ∀ i, i < 18 → ofI (knownT.getD i (0, 0)).1 = (knownT.getD i (0, 0)).2 := by decide
theorem known_bound : ∀ i, i < 18 → -1 ≤ (knownT.getD i (0, 0)).2 ∧ (knownT.getD i (0, 0)).2 ≤ 2 := by decide

theorem Text_is (a : Option Addr) (n c : Nat) (l : List Int) (v : Int) (w : World) (hl : l.length < 1000000) (hv : textI l = v) (hr : Rd w a n 1 (ints .i32 l)) (ht : Tabs w) :
    Calls Tryd.prog 15 #[.slice a n c] w fun e w' => e = .returned (.int .i64 v) ∧ Kept [] w w' := by
  subst hv
  exact Text_any a n c l w hl hr ht
theorem Fits_is (a : Option Addr) (n c : Nat) (l : List Int) (m v : Int) (w : World) (hl : l.length < 1000000) (hm : -9223372036854775808 ≤ m ∧ m ≤ 9223372036854775807) (hv : fitsI l m = v) (hr : Rd w a n 1 (ints .i32 l)) (ht : Tabs w) :
    Calls Tryd.prog 16 #[.slice a n c, .int .i64 m] w fun e w' => e = .returned (.int .i64 v) ∧ Kept [] w w' := by
  subst hv
  exact Fits_any a n c l m w hl hm hr ht

set_option maxHeartbeats 4000000 in
theorem known_any (w : World) (ht : Tabs w) : Calls Tryd.prog 9 #[] w fun e w' => e = .returned (.bool true) ∧ Kept [] w w' := by
  have ht' := hide ht
  clear ht
  go_enter Tryd.func9, Tryd.ntmps9
  go_wp2_with fail
  obtain ⟨W0, hW0⟩ : ∃ x : World, x = w.alloc (.cells (flatT knownT).toArray 30) := ⟨_, rfl⟩
  have hk0 : Kept [] w W0 := by rw [hW0]; exact (Kept.refl [] w).alloc _
  have ht0 : Hid (TabAt W0 w.heap.size knownT) := hide (TabAt.of_heap (by rw [hW0]; exact heap_alloc_new w _) rfl)
  change Code.wp _ _ _ _ (w.alloc (.cells (flatT knownT).toArray 30))
  rw [← hW0]
  have hs0 : W0.heap.size = w.heap.size + 1 := by rw [hW0]; simp
  clear hW0
  go_loopg [24] 18 (fun kx s24 wr => ∃ k : Nat, s24 = .int .i64 k ∧ k ≤ 18 ∧ 18 - k ≤ kx ∧ Kept [] W0 wr)
  case atStart => exact ⟨0, rfl, Nat.zero_le _, by omega, Kept.refl _ _⟩
  case round =>
    obtain ⟨k, rfl, hk, hg, hkr⟩ := hrel
    by_cases hlt : k < 18
    · obtain ⟨c1, c2⟩ := (ht0.out.kept hkr (by simp)) k hlt
      have hO := known_of k hlt
      have hB1 := (known_bound k hlt).1
      have hB2 := (known_bound k hlt).2
      have hkn : (k : Int) < 18 := by omega
      have ho := hide (fun w1 hk1 => of_any (knownT.getD k (0, 0)).1 w1 (ht'.out.kept ((hk0.trans hkr (by simp)).trans hk1 (by simp))) : ∀ w1, Kept [] wr w1 → _)
      rw [hO] at ho
      clear hO
      generalize (knownT.getD k (0, 0)).1 = x at *
      generalize (knownT.getD k (0, 0)).2 = y at *
      go_wp2_with fail
      obtain ⟨WA, hWA⟩ : ∃ z : World, z = wr.alloc (.cells #[.int .i32 x, .int .i32 y] 30) := ⟨_, rfl⟩
      have hkA : Kept [] wr WA := by rw [hWA]; exact (Kept.refl [] wr).alloc _
      have e0 : WA.cell? ⟨wr.heap.size, 0, none⟩ = some (.int .i32 x) := by rw [hWA]; simp [go_sem]
      have e1 : WA.cell? ⟨wr.heap.size, 1, none⟩ = some (.int .i32 y) := by rw [hWA]; simp [go_sem]
      rw [← hWA]
      clear hWA
      go_region_held3 (fun w' => w'.cell? ⟨wr.heap.size, 0, none⟩ = some (.int .i32 x) ∧ w'.cell? ⟨wr.heap.size, 1, none⟩ = some (.int .i32 y))
        (first
          | exact ⟨((Kept.refl [] WA).drew).cell e0 (by simp), ((Kept.refl [] WA).drew).cell e1 (by simp)⟩
          | exact ⟨(((Kept.refl [] WA).drew).trans hk1 (by simp)).cell e0 (by simp), (((Kept.refl [] WA).drew).trans hk1 (by simp)).cell e1 (by simp)⟩)
        ((go_at_call 7; refine (ho.out WA.drew hkA.drew).mono ?_; rintro e w1 ⟨rfl, hk1⟩))
      have hw : IntKind.i64.wrap y = y := IntWalk.i64_in _ (by omega)
      go_wp2_with fail
      go_roundg (18 - (k + 1))
      case measure => omega
      case rel => exact ⟨k + 1, by push_cast; rfl, by omega, Nat.le_refl _, hkr.trans (hkA.drew.trans hk1 (by simp)) (by simp)⟩
    · obtain rfl : k = 18 := by omega
      have htr := hide (ht'.out.kept (hk0.trans hkr (by simp)))
      have hkB := hide (hk0.trans hkr (by simp))
      clear ht0 hk0 hkr ht'
      go_wp2_with fail
      have hkw : Kept [] wr ((wr.alloc (.cells #[.int .i32 97, .int .i32 769, .int .i32 19968, .int .i32 98] 21)).alloc (.cells #[.int .i32 97, .int .i32 769, .int .i32 19968, .int .i32 7] 21)) := ((Kept.refl [] wr).alloc _).alloc _
      refine (Text_is _ _ _ [97, 769, 19968, 7] 3 _ (by decide) (by decide) (Rd.block (cur := #[.int .i32 97, .int .i32 769, .int .i32 19968, .int .i32 7]) (heap_alloc2_new wr _ _) rfl) (htr.out.kept hkw)).mono ?_
      rintro e w1 ⟨rfl, hk1⟩
      have hkw1 := hkw.trans hk1 (by simp)
      have hL : Hid (Rd w1 (some ⟨wr.heap.size, 0, none⟩) 4 1 (ints .i32 [97, 769, 19968, 98])) := hide ((Rd.kept (S := []) (w := wr.alloc (.cells #[.int .i32 97, .int .i32 769, .int .i32 19968, .int .i32 98] 21)) (Rd.block (cur := #[.int .i32 97, .int .i32 769, .int .i32 19968, .int .i32 98]) (heap_alloc_new wr _) rfl) (((Kept.refl [] _).alloc _).trans hk1 (by simp)) (by simp)))
      clear hkw hk1
      go_wp2_with fail
      refine (Fits_is _ _ _ [97, 769, 19968, 98] 2 2 _ (by decide) (by decide) (by decide) hL.out (htr.out.kept hkw1)).mono ?_
      rintro e w2 ⟨rfl, hk2⟩
      have hkw2 := hkw1.trans hk2 (by simp)
      have hL2 := hide (hL.out.kept hk2 (by simp))
      clear hk2 hkw1 hL
      go_wp2_with fail
      refine (Fits_is _ _ _ [97, 769, 19968, 98] 3 3 _ (by decide) (by decide) (by decide) hL2.out (htr.out.kept hkw2)).mono ?_
      rintro e w3 ⟨rfl, hk3⟩
      have hkw3 := hkw2.trans hk3 (by simp)
      clear hk3 hkw2 hL2
      go_wp2_with fail
      have hkw4 : Kept [] wr (w3.alloc (.cells #[.int .i32 19968] 21)) := hkw3.alloc _
      refine (Fits_is _ _ _ [19968] 1 0 _ (by decide) (by decide) (by decide) (Rd.block (cur := #[.int .i32 19968]) (heap_alloc_new w3 _) rfl) (htr.out.kept hkw4)).mono ?_
      rintro e w5 ⟨rfl, hk5⟩
      have hkw5 := hkw4.trans hk5 (by simp)
      clear hk5 hkw4 hkw3
      go_wp2_with fail
      have hkw6 : Kept [] wr (w5.alloc (.cells #[.int .i32 769] 21)) := hkw5.alloc _
      refine (Fits_is _ _ _ [769] 0 1 _ (by decide) (by decide) (by decide) (Rd.block (cur := #[.int .i32 769]) (heap_alloc_new w5 _) rfl) (htr.out.kept hkw6)).mono ?_
      rintro e w7 ⟨rfl, hk7⟩
      have hkw7 := hkw6.trans hk7 (by simp)
      clear hk7 hkw6 hkw5
      go_wp2_with fail
      refine (Fits_is none 0 0 [] (-1) 0 _ (by decide) (by decide) (by decide) (Rd.nil _ _ _) (htr.out.kept hkw7)).mono ?_
      rintro e w8 ⟨rfl, hk8⟩
      go_wp2_with fail
      go_ret
      exact ⟨rfl, hkB.out.trans (hkw7.trans hk8 (by simp)) (by simp)⟩
end Go.Proofs.YtbpnfemcblfknabDoor
