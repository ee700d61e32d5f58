/- The walk of WidthTables. -/
import Derived.Test.YtbpnfemcblfknabDoorWidROf
import Derived.Test.YtbpnfemcblfknabDoorWidKnown
import Derived.Test.YtbpnfemcblfknabDoorWidSame
import Derived.BigRegion
namespace Go.Proofs.YtbpnfemcblfknabDoor
open Go.RowKit
set_option linter.unusedVariables false

theorem NewT.all {w w' : World} {T : List (Int × Int)} {e : Ending} (h : NewT w T e w') : ∃ b, e = .returned (.slice (some ⟨b, 0, none⟩) T.length T.length) ∧ w.heap.size ≤ b ∧ b < w'.heap.size ∧ TabAt w' b T ∧ (∀ i, w'.frozen? ⟨b, i, none⟩ = false) ∧ Kept [] w w' := by
  obtain ⟨b, cur, E, he, hb, hg, hc, hk⟩ := h
  refine ⟨b, he, hb, ?_, TabAt.of_heap hg hc, fun i => ?_, hk⟩
  · rcases Nat.lt_or_ge b w'.heap.size with h1 | h1
    · exact h1
    · rw [Array.getElem?_eq_none h1] at hg; cases hg
  · simp [World.frozen?, hg]

theorem kept_frozen {S : List Nat} {w w' : World} {b i : Nat} {v : Value} {c : Bool} (hk : Kept S w w') (hc : w.cell? ⟨b, i, none⟩ = some v) (hf : w.frozen? ⟨b, i, none⟩ = c) (hb : b ∉ S) : w'.frozen? ⟨b, i, none⟩ = c := hk.frozen hc hf hb

set_option maxHeartbeats 4000000 in
theorem WidthTables_walk (by_ : Int) (w : World) (ht : Tabs w) : Calls Tryd.prog 5 #[.int .i32 by_] w fun e w' => e = .returned (.bool true) ∧ Kept [] w w' := by
  have hM := hide (fun w1 hk => (Marks_any w1 (ht.kept hk)).mono fun _ _ h => h.all : ∀ w1, Kept [] w w1 → _)
  have hW := hide (fun w1 hk => (Wide_any w1 (ht.kept hk)).mono fun _ _ h => h.all : ∀ w1, Kept [] w w1 → _)
  have hrM := hide (fun w1 => (rMarks_any w1).mono fun _ _ h => h.all)
  have hrW := hide (fun w1 => (rWide_any w1).mono fun _ _ h => h.all)
  have hS1 := hide (fun b c b2 c2 w1 (h1 : TabAt w1 b marksT) (h2 : TabAt w1 b2 marksT) => rsame_any marksT b c b2 c2 w1 (by decide) h1 h2)
  have hS2 := hide (fun b c b2 c2 w1 (h1 : TabAt w1 b wideT) (h2 : TabAt w1 b2 wideT) => rsame_any wideT b c b2 c2 w1 (by decide) h1 h2)
  have hkn := hide (fun w1 hk => known_any w1 (ht.kept hk) : ∀ w1, Kept [] w w1 → _)
  have ho1 := hide (fun w1 hk => of_any 768 w1 (ht.kept hk) : ∀ w1, Kept [] w w1 → _)
  have ho2 := hide (fun w1 hk => of_any 4447 w1 (ht.kept hk) : ∀ w1, Kept [] w w1 → _)
  rw [show ofI 768 = 0 from by decide] at ho1
  rw [show ofI 4447 = 2 from by decide] at ho2
  rw [marks_len] at hM hrM hS1
  rw [wide_len] at hW hrW hS2
  clear ht
  go_enter Tryd.func5, Tryd.ntmps5
  go_wp2_with fail
  go_loopg [5] 2 (fun kx s5 wr => ∃ k : Nat, s5 = .int .i64 k ∧ k ≤ 2 ∧ 2 - k ≤ kx ∧ Kept [] w wr)
  case atStart => exact ⟨0, rfl, Nat.zero_le _, by omega, Kept.refl _ _⟩
  case round =>
    obtain ⟨k, rfl, hk, hg, hkr⟩ := hrel
    by_cases hlt : k < 2
    · have hkn2 : (k : Int) < 2 := by omega
      go_wp2_with fail
      refine (hM.out wr hkr).mono ?_
      rintro e w1 ⟨b1, rfl, hb1, hl1, ht1, hf1, hk1⟩
      go_wp2_with fail
      refine (hW.out w1 (hkr.trans hk1 (by simp))).mono ?_
      rintro e w2 ⟨b2, rfl, hb2, hl2, ht2, hf2, hk2⟩
      go_wp2_with fail
      refine (hrM.out w2).mono ?_
      rintro e w3 ⟨b3, rfl, hb3, hl3, ht3, _, hk3⟩
      go_wp2_with fail
      have hk23 := hk2.trans hk3 (by simp)
      refine (hS1.out b1 18 b3 18 w3 (ht1.kept hk23 (by simp)) ht3).mono ?_
      rintro e w4 ⟨rfl, hk4⟩
      go_wp2_with fail
      refine (hrW.out w4).mono ?_
      rintro e w5 ⟨b5, rfl, hb5, hl5, ht5, _, hk5⟩
      go_wp2_with fail
      have hk25 := hk3.trans (hk4.trans hk5 (by simp)) (by simp)
      refine (hS2.out b2 19 b5 19 w5 (ht2.kept hk25 (by simp)) ht5).mono ?_
      rintro e w6 ⟨rfl, hk6⟩
      have hk26 := hk25.trans hk6 (by simp)
      have hk16 := hk2.trans hk26 (by simp)
      have c1 : w6.cell? ⟨b1, 0, none⟩ = some (.int .i32 768) := hk16.cell (ht1 0 (by decide)).1 (by simp)
      have c2 : w6.cell? ⟨b2, 1, none⟩ = some (.int .i32 4447) := hk26.cell (ht2 0 (by decide)).2 (by simp)
      have f1 : w6.frozen? ⟨b1, 0, none⟩ = false := hk16.frozen (ht1 0 (by decide)).1 (hf1 0) (by simp)
      have f2 : w6.frozen? ⟨b2, 1, none⟩ = false := hk26.frozen (ht2 0 (by decide)).2 (hf2 1) (by simp)
      have hb12 : ¬ b1 = b2 := by omega
      have hkA : Kept [] w w6 := hkr.trans (hk1.trans hk16 (by simp)) (by simp)
      have hsz : w.heap.size ≤ b1 ∧ w.heap.size ≤ b2 := ⟨by have := hkr.size; omega, by have := hkr.size; have := hk1.size; omega⟩
      have hkA' := hide hkA
      have hsz' := hide hsz
      clear hkA hsz hk16 hk26 hk25 hk23 hk6 hk5 hk4 hk3 hk2 hk1 ht1 ht2 ht3 ht5 hf1 hf2 hb1 hl1 hb2 hl2 hb3 hl3 hb5 hl5 hkr
      go_wp2_with fail
      go_region
      go_wp2_with fail
      go_roundg (2 - (k + 1))
      case measure => omega
      case rel => exact ⟨k + 1, by push_cast; rfl, by omega, Nat.le_refl _, (((hkA'.out.setCell (.inr hsz'.out.1) _).setCell (.inr hsz'.out.2) _).drew)⟩
    · obtain rfl : k = 2 := by omega
      go_wp2_with fail
      refine (ho1.out _ hkr).mono ?_
      rintro e w1 ⟨rfl, hk1⟩
      have hK1 := hkr.trans hk1 (by simp)
      go_wp2_with fail
      refine (ho2.out _ hK1).mono ?_
      rintro e w2 ⟨rfl, hk2⟩
      have hK2 := hK1.trans hk2 (by simp)
      go_wp2_with fail
      refine (hkn.out _ hK2).mono ?_
      rintro e w3 ⟨rfl, hk3⟩
      go_wp2_with fail
      go_ret
      exact ⟨rfl, hK2.trans hk3 (by simp)⟩
end Go.Proofs.YtbpnfemcblfknabDoor
