/- The decoder of layer 1: what each of its functions returns and leaves. -/
import Derived.Test.YtjcoeapopkkcbaaUtil
import Derived.Test.YtjcoeapopkkcbaaUtfLeaf
import Derived.Deep.QuietTactic
namespace Go.Proofs.Ytjcoeapopkkcbaa
open Go.RowKit

/-- A decoder lies at ⟨b, o⟩, with these bytes pending. -/
structure Dec (w : World) (b o : Nat) (p : List Int) : Prop where
  c0 : w.cell? ⟨b, o, none⟩ = some (.int .u8 (p.getD 0 0))
  c1 : w.cell? ⟨b, o + 1, none⟩ = some (.int .u8 (p.getD 1 0))
  c2 : w.cell? ⟨b, o + 2, none⟩ = some (.int .u8 (p.getD 2 0))
  c3 : w.cell? ⟨b, o + 3, none⟩ = some (.int .i64 p.length)
  f0 : w.frozen? ⟨b, o, none⟩ = false
  f1 : w.frozen? ⟨b, o + 1, none⟩ = false
  f2 : w.frozen? ⟨b, o + 2, none⟩ = false
  f3 : w.frozen? ⟨b, o + 3, none⟩ = false

/-- Of block b only n cells from o on may have changed. -/
def Within (b o n : Nat) (w w' : World) : Prop := ∀ q, (q < o ∨ o + n ≤ q) → w'.cell? ⟨b, q, none⟩ = w.cell? ⟨b, q, none⟩ ∧ w'.frozen? ⟨b, q, none⟩ = w.frozen? ⟨b, q, none⟩
theorem Within.refl (b o n : Nat) (w : World) : Within b o n w w := fun _ _ => ⟨rfl, rfl⟩
theorem Within.trans {b o n : Nat} {x y z : World} (h : Within b o n x y) (k : Within b o n y z) : Within b o n x z := fun q hq => ⟨(k q hq).1.trans (h q hq).1, (k q hq).2.trans (h q hq).2⟩

theorem within_set {b o n i : Nat} {w x : World} (h : Within b o n w x) (h1 : o ≤ i) (h2 : i < o + n) (v : Value) : Within b o n w (x.setCell ⟨b, i, none⟩ v) := fun q hq =>
  ⟨(World.cell?_setCell_other _ _ _ _ (by intro e; injection e; omega)).trans (h q hq).1, (World.frozen?_setCell _ _ _ _).trans (h q hq).2⟩
theorem within_of {b o n : Nat} {S : List Nat} {w x : World} (h : Kept S w x) (hlt : b < w.heap.size) (hb : b ∉ S) : Within b o n w x := fun _ _ =>
  ⟨World.cell?_of_block (h.block b hlt hb), World.frozen?_of_block (h.block b hlt hb)⟩
theorem Dec.lt {w : World} {b o : Nat} {p : List Int} (h : Dec w b o p) : b < w.heap.size := World.block_lt_of_cell? w _ h.c0
theorem Dec.kept {S : List Nat} {w x : World} {b o : Nat} {p : List Int} (h : Dec w b o p) (hk : Kept S w x) (hb : b ∉ S) : Dec x b o p :=
  ⟨hk.cell h.c0 hb, hk.cell h.c1 hb, hk.cell h.c2 hb, hk.cell h.c3 hb, hk.frozen h.c0 h.f0 hb, hk.frozen h.c1 h.f1 hb, hk.frozen h.c2 h.f2 hb, hk.frozen h.c3 h.f3 hb⟩
theorem within_drew {b o n : Nat} {w x : World} (h : Within b o n w x) : Within b o n w x.drew := h

set_option maxHeartbeats 400000 in
theorem reset_any (b o : Nat) (p : List Int) (w : World) (hd : Dec w b o p) :
    Calls Try.prog 31 #[.pointer (some ⟨b, o, none⟩)] w fun e w' => e = .returned (.tuple #[]) ∧ Kept [b] w w' ∧ Dec w' b o [] ∧ Within b o 4 w w' := by
  obtain ⟨c0, c1, c2, c3, f0, f1, f2, f3⟩ := hd
  go_enter Try.func31, Try.ntmps31
  go_wp2
  go_end0
  refine ⟨rfl, ((((Kept.refl _ _).setCell (by simp) _).setCell (by simp) _).setCell (by simp) _).setCell (by simp) _, ?_, within_set (within_set (within_set (within_set (Within.refl _ _ _ _) (by omega) (by omega) _) (by omega) (by omega) _) (by omega) (by omega) _) (by omega) (by omega) _⟩
  constructor <;> simp [go_sem, c0, c1, c2, c3, f0, f1, f2, f3]

set_option maxHeartbeats 400000 in
theorem hold_any (b o : Nat) (p : List Int) (c : Int) (w : World) (hd : Dec w b o p) (hp : p.length ≤ 2) :
    Calls Try.prog 35 #[.pointer (some ⟨b, o, none⟩), .int .u8 c] w fun e w' => e = .returned (.tuple #[]) ∧ Kept [b] w w' ∧ Dec w' b o (p ++ [c]) ∧ Within b o 4 w w' := by
  obtain ⟨c0, c1, c2, c3, f0, f1, f2, f3⟩ := hd
  match p, hp with
  | [], _ =>
    simp at c0 c1 c2 c3
    go_enter Try.func35, Try.ntmps35
    go_wp2
    go_region
    go_wp2
    go_end0
    refine ⟨rfl, (((Kept.refl _ _).setCell (by simp) _).setCell (by simp) _).drew, ?_, within_drew (within_set (within_set (Within.refl _ _ _ _) (by omega) (by omega) _) (by omega) (by omega) _)⟩
    constructor <;> simp [go_sem, c0, c1, c2, c3, f0, f1, f2, f3]
  | [x], _ =>
    simp at c0 c1 c2 c3
    go_enter Try.func35, Try.ntmps35
    go_wp2
    go_region
    go_wp2
    go_end0
    refine ⟨rfl, (((Kept.refl _ _).setCell (by simp) _).setCell (by simp) _).drew, ?_, within_drew (within_set (within_set (Within.refl _ _ _ _) (by omega) (by omega) _) (by omega) (by omega) _)⟩
    constructor <;> simp [go_sem, c0, c1, c2, c3, f0, f1, f2, f3]
  | [x, y], _ =>
    simp at c0 c1 c2 c3
    go_enter Try.func35, Try.ntmps35
    go_wp2
    go_region
    go_wp2
    go_end0
    refine ⟨rfl, (((Kept.refl _ _).setCell (by simp) _).setCell (by simp) _).drew, ?_, within_drew (within_set (within_set (Within.refl _ _ _ _) (by omega) (by omega) _) (by omega) (by omega) _)⟩
    constructor <;> simp [go_sem, c0, c1, c2, c3, f0, f1, f2, f3]

set_option maxHeartbeats 400000 in
theorem goesOn_any (b o : Nat) (p : List Int) (c : Int) (w : World) (hd : Dec w b o p) (hp : ∀ x ∈ p, 0 ≤ x ∧ x ≤ 255) :
    Calls Try.prog 32 #[.pointer (some ⟨b, o, none⟩), .int .u8 c] w fun e w' => e = .returned (.bool (goesB p c)) ∧ w = w' := by
  obtain ⟨c0, c1, c2, c3, f0, f1, f2, f3⟩ := hd
  match p with
  | [] =>
    simp at c0 c1 c2 c3
    go_enter Try.func32, Try.ntmps32
    go_wp2
    go_ret
    exact ⟨rfl, rfl⟩
  | [x] =>
    simp at c0 c1 c2 c3
    have hx := hp x (by simp)
    have hc := secondBounds_any x w hx.1 hx.2
    have eg : goesB [x] c = (decide (loI x ≤ c) && decide (c ≤ hiI x)) := by simp [goesB]
    rw [eg]
    generalize loI x = l at *
    generalize hiI x = h at *
    clear eg
    by_cases g1 : l ≤ c
    · by_cases g2 : c ≤ h
      · go_enter Try.func32, Try.ntmps32
        go_wp2_with (go_at_call 41; refine hc.mono ?_; rintro e w' ⟨rfl, rfl⟩)
        go_ret
        exact ⟨ret_bool (by rw [Bool.eq_iff_iff]; simp; omega), rfl⟩
      · go_enter Try.func32, Try.ntmps32
        go_wp2_with (go_at_call 41; refine hc.mono ?_; rintro e w' ⟨rfl, rfl⟩)
        go_ret
        exact ⟨ret_bool (by rw [Bool.eq_iff_iff]; simp; omega), rfl⟩
    · go_enter Try.func32, Try.ntmps32
      go_wp2_with (go_at_call 41; refine hc.mono ?_; rintro e w' ⟨rfl, rfl⟩)
      go_ret
      exact ⟨ret_bool (by rw [Bool.eq_iff_iff]; simp; omega), rfl⟩
  | x :: y :: r =>
    simp at c0 c1 c2 c3
    have h1 : ((r.length : Int) + 1 + 1 == 0) = false := by simp; omega
    have h2 : ((r.length : Int) + 1 + 1 == 1) = false := by simp; omega
    have eg : goesB (x :: y :: r) c = (decide (128 ≤ c) && decide (c ≤ 191)) := by simp [goesB]
    rw [eg]
    clear eg
    by_cases g1 : 128 ≤ c
    · by_cases g2 : c ≤ 191
      · go_enter Try.func32, Try.ntmps32
        go_wp2
        go_ret
        exact ⟨ret_bool (by rw [Bool.eq_iff_iff]; simp; omega), rfl⟩
      · go_enter Try.func32, Try.ntmps32
        go_wp2
        go_ret
        exact ⟨ret_bool (by rw [Bool.eq_iff_iff]; simp; omega), rfl⟩
    · go_enter Try.func32, Try.ntmps32
      go_wp2
      go_ret
      exact ⟨ret_bool (by rw [Bool.eq_iff_iff]; simp; omega), rfl⟩
end Go.Proofs.Ytjcoeapopkkcbaa
