/- The reference of layer 1: Rune, State.Step. -/
import Derived.Test.YtjcoeapopkkcbaaUtfBeg2
import Derived.StillTailTactics
import Derived.Deep.RegionHeld3
import Derived.Deep.AppendLies
namespace Go.Proofs.Ytjcoeapopkkcbaa
open Go.RowKit
set_option linter.unusedVariables false

set_option maxHeartbeats 400000 in
theorem rRune_one (bb oo cb : Nat) (c : Int) (w : World) (hc : 0 ≤ c ∧ c ≤ 255) (hr : w.cell? ⟨bb, oo, none⟩ = some (.int .u8 c)) :
    Calls Try.prog 29 #[.slice (some ⟨bb, oo, none⟩) 1 cb] w fun e w' => e = .returned (.int .i32 c) ∧ Kept [] w w' := by
  have h1 := hc.1
  have h2 := hc.2
  go_enter Try.func29, Try.ntmps29
  go_wp2_with fail
  go_ret
  exact ⟨rfl, Kept.refl _ _⟩

set_option maxHeartbeats 400000 in
theorem rRune_many (bb oo cb : Nat) (l : List Int) (w : World) (hl : ∀ x ∈ l, 0 ≤ x ∧ x ≤ 255) (hr : ∀ j u, (ints .u8 l)[j]? = some u → w.cell? ⟨bb, oo + j, none⟩ = some u)
    (hn : l.length = 2 ∨ l.length = 3 ∨ l.length = 4) :
    Calls Try.prog 29 #[.slice (some ⟨bb, oo, none⟩) l.length cb] w fun e w' => e = .returned (.int .i32 (valTo l (firstI l.length) l.length)) ∧ Kept [] w w' := by
  have h1 := hide (value_any bb oo cb l.length l w hl hr hn (by omega) (by omega))
  have hb := valTo_bound hl (firstI l.length) (by rcases hn with h | h | h <;> rw [h] <;> simp [firstI]) l.length (by omega)
  have t1 : ((l.length : Int) == 1) = false := beq_eq_false_iff_ne.2 (by omega)
  clear hn
  generalize valTo l (firstI l.length) l.length = V at *
  go_enter Try.func29, Try.ntmps29
  go_wp2_with fail
  refine h1.out.mono ?_
  rintro e w1 ⟨rfl, hk⟩
  go_wp2_with fail
  go_ret
  exact ⟨rfl, hk⟩

/-- What the reference's Step returns: a state whose bytes are p, and runes. -/
def RStepRet (p r : List Int) (w : World) (e : Ending) (w' : World) : Prop :=
  ∃ a n c a' n' c', e = .returned (.tuple #[.agg #[.slice a n c], .slice a' n' c']) ∧ Rd w' a n 1 (ints .u8 p) ∧ (∀ g ∈ blk a, w.heap.size ≤ g ∧ g < w'.heap.size) ∧ Own w' w.heap.size 21 a' n' c' 1 (ints .i32 r) ∧ Kept [] w w'

theorem Begins_rd (a : Option Addr) (n cb : Nat) (p : List Int) (c : Int) (w : World) (hi : Inv p) (hc : 0 ≤ c ∧ c ≤ 255) (hr : Rd w a n 1 (ints .u8 (p ++ [c]))) :
    Calls Try.prog 28 #[.slice a n cb] w (Bool2Kept (isB p c) (wholeB p c) w) := by
  have hl : n = (p ++ [c]).length := by have := hr.1; rw [ints_len] at this; omega
  subst hl
  rcases hr.2 with h0 | ⟨bb, oo, rfl, hcell⟩
  · simp [ints] at h0
  · exact Begins_any bb oo cb p c w hi hc hcell

theorem rRune_rd (a : Option Addr) (n cb : Nat) (l : List Int) (w : World) (hl : ∀ x ∈ l, 0 ≤ x ∧ x ≤ 255) (h0 : 0 < l.length) (h4 : l.length ≤ 4) (hr : Rd w a n 1 (ints .u8 l)) :
    Calls Try.prog 29 #[.slice a n cb] w fun e w' => e = .returned (.int .i32 (rrune l)) ∧ Kept [] w w' := by
  have hn : n = l.length := by have := hr.1; rw [ints_len] at this; omega
  subst hn
  rcases hr.2 with h | ⟨bb, oo, rfl, hcell⟩
  · have : l = [] := by simpa [ints] using h
    subst this
    simp at h0
  · unfold rrune
    by_cases h1 : l.length = 1
    · rw [if_pos h1, h1]
      have hc := Rd.at hcell 0 h0
      rw [← getD_at h0] at hc
      exact rRune_one bb oo cb _ w (getD_byte hl 0) (by simpa using hc)
    · rw [if_neg h1]
      exact rRune_many bb oo cb l w hl hcell (by omega)


set_option maxHeartbeats 400000 in
theorem rStep_whole (a : Option Addr) (n cap : Nat) (p : List Int) (c : Int) (w : World) (hi : Inv p) (hr : Rd w a n 1 (ints .u8 p)) (hc : 0 ≤ c ∧ c ≤ 255) (h1 : isB p c = true) (h2 : wholeB p c = true) :
    Calls Try.prog 15 #[.agg #[.slice a n cap], .int .u8 c] w (RStepRet [] [rrune (p ++ [c])] w) := by
  have hbig : ∀ w' a2 n2 c2, Rd w' a2 n2 1 (ints .u8 (p ++ [c])) → Calls Try.prog 28 #[.slice a2 n2 c2] w' (Bool2Kept (isB p c) (wholeB p c) w') := fun w' a2 n2 c2 h => Begins_rd a2 n2 c2 p c w' hi hc h
  rw [h1, h2] at hbig
  have hbig' := hide hbig
  have hbytes : ∀ x ∈ p ++ [c], 0 ≤ x ∧ x ≤ 255 := by
    intro x hx
    rw [List.mem_append, List.mem_singleton] at hx
    rcases hx with hx | rfl
    · exact hi.byte x hx
    · exact hc
  have hbytes' := hide hbytes
  clear hbig hbytes h1 h2
  have hlen : n = p.length := by have := hr.1; rw [ints_len] at this; omega
  subst hlen
  have hp3 := hi.len
  go_enter Try.func15, Try.ntmps15
  go_wp2_with (first | (at_builtin; refine wpList_app (base := w.heap.size) ?_ rfl elByte rfl rfl (Own.nil _ _ _ _) rfl (hr.kept (((Kept.refl [] w).alloc _).alloc _) (by simp)) (ints_one _ _) (by omega) (by simp; omega); intro a2 c2 w2 ho2 hk2 hat2; simp only [Nat.zero_add, List.nil_append] at ho2; have hsz2 := hk2.size; simp only [World.size_alloc] at hsz2) | (at_builtin; refine wpList_app ?_ rfl elByte rfl rfl (ho2.alloc _) rfl (Rd.block (heap_alloc_new w2 _) rfl) ?o1 (by omega) ?o3; intro a3 c3 w3 ho3 hk3 hat3; have ho3 : Own w3 w.heap.size 5 a3 (p.length + 1) c3 1 (ints .u8 (p ++ [c])) := (by rw [← ints_snoc]; exact ho3); have hsz3 := hk3.size; simp only [World.size_alloc] at hsz3))
  case o1 => simp [Value.oneCell']
  case o3 => simp; omega
  refine (hbig'.out _ _ _ _ ho3.rd).mono ?_
  rintro e w4 ⟨rfl, hk4⟩
  have hK3 : Kept [] ((w.alloc (.cells #[.slice a p.length cap] 33)).alloc (.cells #[.slice none 0 0] 33)) w3 := (hk2.alloc _).trans hk3 (fun x hx => .inr (by rcases hat2 x hx with h | h; simp [blk] at h; exact h))
  have hK4 := hK3.trans hk4 (by simp)
  have ho4 := ho3.kept hk4 (by simp)
  go_wp2_with fail
  refine (rRune_rd _ _ _ (p ++ [c]) _ hbytes'.out (by simp) (by simp; omega) ho4.rd).mono ?_
  rintro e w5 ⟨rfl, hk5⟩
  have hK5 := hK4.trans hk5 (by simp)
  have c5 : w5.cell? ⟨w.heap.size + 1, 0, none⟩ = some (.slice none 0 0) := hK5.cell (by simp [go_sem]) (by simp)
  have f5 : w5.frozen? ⟨w.heap.size + 1, 0, none⟩ = false := hK5.frozen (v := .slice none 0 0) (by simp [go_sem]) (by simp [go_sem]) (by simp)
  have s5 := hK5.size
  simp only [World.size_alloc] at s5
  have s5' : w.heap.size + 1 < w5.heap.size := by omega
  generalize rrune (p ++ [c]) = R at *
  go_wp2_with fail
  refine bodyPost_ret (v := .tuple #[.agg #[.slice none 0 0], .slice (some ⟨w5.heap.size, 0, none⟩) 1 1]) (by simp [results, Try.results15, go_sem, cell_set_alloc c5]) rfl ?_
  have hkA : Kept [] w w5 := (((Kept.refl [] w).alloc _).alloc _).trans hK5 (by simp)
  exact ⟨none, 0, 0, _, 1, 1, rfl, Rd.nil _ _ _, by simp [blk], Own.of_block (E := 21) (cur := #[.int .i32 R]) (by omega) (by simpa using heap_alloc_new (w5.setCell ⟨w.heap.size + 1, 0, none⟩ (.slice none 0 0)) (.cells #[.int .i32 R] 21)) rfl (by unfold maxLen; omega), (hkA.setCell (.inr (by simp)) _).alloc _⟩
set_option maxHeartbeats 400000 in
theorem rStep_is (a : Option Addr) (n cap : Nat) (p : List Int) (c : Int) (w : World) (hi : Inv p) (hr : Rd w a n 1 (ints .u8 p)) (hc : 0 ≤ c ∧ c ≤ 255) (h1 : isB p c = true) (h2 : wholeB p c = false) :
    Calls Try.prog 15 #[.agg #[.slice a n cap], .int .u8 c] w (RStepRet (p ++ [c]) [] w) := by
  have hbig : ∀ w' a2 n2 c2, Rd w' a2 n2 1 (ints .u8 (p ++ [c])) → Calls Try.prog 28 #[.slice a2 n2 c2] w' (Bool2Kept (isB p c) (wholeB p c) w') := fun w' a2 n2 c2 h => Begins_rd a2 n2 c2 p c w' hi hc h
  rw [h1, h2] at hbig
  have hbig' := hide hbig
  have hbytes : ∀ x ∈ p ++ [c], 0 ≤ x ∧ x ≤ 255 := by
    intro x hx
    rw [List.mem_append, List.mem_singleton] at hx
    rcases hx with hx | rfl
    · exact hi.byte x hx
    · exact hc
  have hbytes' := hide hbytes
  clear hbig hbytes h1 h2
  have hlen : n = p.length := by have := hr.1; rw [ints_len] at this; omega
  subst hlen
  have hp3 := hi.len
  go_enter Try.func15, Try.ntmps15
  go_wp2_with (first | (at_builtin; refine wpList_app (base := w.heap.size) ?_ rfl elByte rfl rfl (Own.nil _ _ _ _) rfl (hr.kept (((Kept.refl [] w).alloc _).alloc _) (by simp)) (ints_one _ _) (by omega) (by simp; omega); intro a2 c2 w2 ho2 hk2 hat2; simp only [Nat.zero_add, List.nil_append] at ho2; have hsz2 := hk2.size; simp only [World.size_alloc] at hsz2) | (at_builtin; refine wpList_app ?_ rfl elByte rfl rfl (ho2.alloc _) rfl (Rd.block (heap_alloc_new w2 _) rfl) ?o1 (by omega) ?o3; intro a3 c3 w3 ho3 hk3 hat3; have ho3 : Own w3 w.heap.size 5 a3 (p.length + 1) c3 1 (ints .u8 (p ++ [c])) := (by rw [← ints_snoc]; exact ho3); have hsz3 := hk3.size; simp only [World.size_alloc] at hsz3))
  case o1 => simp [Value.oneCell']
  case o3 => simp; omega
  refine (hbig'.out _ _ _ _ ho3.rd).mono ?_
  rintro e w4 ⟨rfl, hk4⟩
  have hK3 : Kept [] ((w.alloc (.cells #[.slice a p.length cap] 33)).alloc (.cells #[.slice none 0 0] 33)) w3 := (hk2.alloc _).trans hk3 (fun x hx => .inr (by rcases hat2 x hx with h | h; simp [blk] at h; exact h))
  have hK4 := hK3.trans hk4 (by simp)
  have ho4 := ho3.kept hk4 (by simp)
  have c5 : w4.cell? ⟨w.heap.size + 1, 0, none⟩ = some (.slice none 0 0) := hK4.cell (by simp [go_sem]) (by simp)
  have f5 : w4.frozen? ⟨w.heap.size + 1, 0, none⟩ = false := hK4.frozen (v := .slice none 0 0) (by simp [go_sem]) (by simp [go_sem]) (by simp)
  have s5 := hK4.size
  simp only [World.size_alloc] at s5
  have s5' : w.heap.size + 1 < w4.heap.size := by omega
  have hg3 : ∀ g ∈ blk a3, w.heap.size + 2 ≤ g := fun g hg => by
    rcases hat3 g hg with h | h
    · rcases hat2 g h with h | h
      · simp [blk] at h
      · simpa using h
    · simp only [World.size_alloc] at h
      omega
  go_wp2_with fail
  refine bodyPost_ret (v := .tuple #[.agg #[.slice a3 (p.length + 1) c3], .slice none 0 0]) (by simp [results, Try.results15, go_sem, c5]) rfl ?_
  have hkA : Kept [] w w4 := (((Kept.refl [] w).alloc _).alloc _).trans hK4 (by simp)
  have hkS : Kept [w.heap.size + 1] w4 (w4.setCell ⟨w.heap.size + 1, 0, none⟩ (.slice a3 (p.length + 1) c3)) := (Kept.refl _ _).setCell (.inl (by simp)) _
  exact ⟨a3, _, c3, none, 0, 0, rfl, ho4.rd.kept hkS (fun g hg => by have := hg3 g hg; simp; omega), fun g hg => ⟨by have := hg3 g hg; omega, by have := (ho4.ge g hg).2; simpa using this⟩, Own.nil _ _ _ _, hkA.setCell (.inr (by simp)) _⟩

set_option maxHeartbeats 400000 in
theorem rStep_bad (a : Option Addr) (n cap : Nat) (p : List Int) (c : Int) (w : World) (hi : Inv p) (hr : Rd w a n 1 (ints .u8 p)) (hc : 0 ≤ c ∧ c ≤ 255) (hp : p = []) (h1 : isB p c = false) (h2 : wholeB p c = false) :
    Calls Try.prog 15 #[.agg #[.slice a n cap], .int .u8 c] w (RStepRet [] [65533] w) := by
  have hbig : ∀ w' a2 n2 c2, Rd w' a2 n2 1 (ints .u8 (p ++ [c])) → Calls Try.prog 28 #[.slice a2 n2 c2] w' (Bool2Kept (isB p c) (wholeB p c) w') := fun w' a2 n2 c2 h => Begins_rd a2 n2 c2 p c w' hi hc h
  rw [h1, h2] at hbig
  have hbig' := hide hbig
  have hbytes : ∀ x ∈ p ++ [c], 0 ≤ x ∧ x ≤ 255 := by
    intro x hx
    rw [List.mem_append, List.mem_singleton] at hx
    rcases hx with hx | rfl
    · exact hi.byte x hx
    · exact hc
  have hbytes' := hide hbytes
  clear hbig hbytes h1 h2
  have hlen : n = p.length := by have := hr.1; rw [ints_len] at this; omega
  subst hlen
  have hp3 := hi.len
  have pz : ((p.length : Int) == 0) = true := by rw [hp]; rfl
  clear hp
  go_enter Try.func15, Try.ntmps15
  go_wp2_with (first | (at_builtin; refine wpList_app (base := w.heap.size) ?_ rfl elByte rfl rfl (Own.nil _ _ _ _) rfl (hr.kept (((Kept.refl [] w).alloc _).alloc _) (by simp)) (ints_one _ _) (by omega) (by simp; omega); intro a2 c2 w2 ho2 hk2 hat2; simp only [Nat.zero_add, List.nil_append] at ho2; have hsz2 := hk2.size; simp only [World.size_alloc] at hsz2) | (at_builtin; refine wpList_app ?_ rfl elByte rfl rfl (ho2.alloc _) rfl (Rd.block (heap_alloc_new w2 _) rfl) ?o1 (by omega) ?o3; intro a3 c3 w3 ho3 hk3 hat3; have ho3 : Own w3 w.heap.size 5 a3 (p.length + 1) c3 1 (ints .u8 (p ++ [c])) := (by rw [← ints_snoc]; exact ho3); have hsz3 := hk3.size; simp only [World.size_alloc] at hsz3))
  case o1 => simp [Value.oneCell']
  case o3 => simp; omega
  refine (hbig'.out _ _ _ _ ho3.rd).mono ?_
  rintro e w4 ⟨rfl, hk4⟩
  have hK3 : Kept [] ((w.alloc (.cells #[.slice a p.length cap] 33)).alloc (.cells #[.slice none 0 0] 33)) w3 := (hk2.alloc _).trans hk3 (fun x hx => .inr (by rcases hat2 x hx with h | h; simp [blk] at h; exact h))
  have hK4 := hK3.trans hk4 (by simp)
  have ho4 := ho3.kept hk4 (by simp)
  have c2' : w4.cell? ⟨w.heap.size, 0, none⟩ = some (.slice a p.length cap) := hK4.cell (by simp [go_sem]) (by simp)
  have c5 : w4.cell? ⟨w.heap.size + 1, 0, none⟩ = some (.slice none 0 0) := hK4.cell (by simp [go_sem]) (by simp)
  have f5 : w4.frozen? ⟨w.heap.size + 1, 0, none⟩ = false := hK4.frozen (v := .slice none 0 0) (by simp [go_sem]) (by simp [go_sem]) (by simp)
  have s5 := hK4.size
  simp only [World.size_alloc] at s5
  have s5' : w.heap.size + 1 < w4.heap.size := by omega
  go_wp2_with fail
  refine bodyPost_ret (v := .tuple #[.agg #[.slice none 0 0], .slice (some ⟨w4.heap.size, 0, none⟩) 1 1]) (by simp [results, Try.results15, go_sem, cell_set_alloc c5]) rfl ?_
  have hkA : Kept [] w w4 := (((Kept.refl [] w).alloc _).alloc _).trans hK4 (by simp)
  exact ⟨none, 0, 0, _, 1, 1, rfl, Rd.nil _ _ _, by simp [blk], Own.of_block (E := 21) (cur := #[.int .i32 65533]) (by omega) (by simpa using heap_alloc_new (w4.setCell ⟨w.heap.size + 1, 0, none⟩ (.slice none 0 0)) (.cells #[.int .i32 65533] 21)) rfl (by unfold maxLen; omega), (hkA.setCell (.inr (by simp)) _).alloc _⟩

theorem rStep_nil (c : Int) (w : World) (hc : 0 ≤ c ∧ c ≤ 255) :
    Calls Try.prog 15 #[.agg #[.slice none 0 0], .int .u8 c] w (RStepRet (stepP [] c) (stepR [] c) w) := by
  cases h1 : isB [] c
  · have h2 : wholeB [] c = false := by simp [wholeB, h1]
    rw [(step_bad h1).1, (step_bad h1).2]
    exact rStep_bad none 0 0 [] c w True.intro (Rd.nil _ _ _) hc rfl h1 h2
  · cases h2 : wholeB [] c
    · rw [(step_is (p := []) True.intro h1 h2).1, (step_is (p := []) True.intro h1 h2).2]
      exact rStep_is none 0 0 [] c w True.intro (Rd.nil _ _ _) hc h1 h2
    · rw [(step_whole (p := []) True.intro h2).1, (step_whole (p := []) True.intro h2).2]
      exact rStep_whole none 0 0 [] c w True.intro (Rd.nil _ _ _) hc h1 h2

set_option maxHeartbeats 400000 in
theorem rStep_not (a : Option Addr) (n cap : Nat) (p : List Int) (c : Int) (w : World) (hi : Inv p) (hr : Rd w a n 1 (ints .u8 p)) (hc : 0 ≤ c ∧ c ≤ 255) (hp : p ≠ []) (h1 : isB p c = false) (h2 : wholeB p c = false) :
    Calls Try.prog 15 #[.agg #[.slice a n cap], .int .u8 c] w (RStepRet (stepP [] c) (65533 :: stepR [] c) w) := by
  have hbig : ∀ w' a2 n2 c2, Rd w' a2 n2 1 (ints .u8 (p ++ [c])) → Calls Try.prog 28 #[.slice a2 n2 c2] w' (Bool2Kept (isB p c) (wholeB p c) w') := fun w' a2 n2 c2 h => Begins_rd a2 n2 c2 p c w' hi hc h
  rw [h1, h2] at hbig
  have hbig' := hide hbig
  have hbytes : ∀ x ∈ p ++ [c], 0 ≤ x ∧ x ≤ 255 := by
    intro x hx
    rw [List.mem_append, List.mem_singleton] at hx
    rcases hx with hx | rfl
    · exact hi.byte x hx
    · exact hc
  have hbytes' := hide hbytes
  clear hbig hbytes h1 h2
  have hlen : n = p.length := by have := hr.1; rw [ints_len] at this; omega
  subst hlen
  have hp3 := hi.len
  have hp0 : 0 < p.length := List.length_pos_iff.2 hp
  clear hp
  have hrec' := hide (fun w' => rStep_nil c w' hc)
  have hsl : (stepR [] c).length ≤ 2 := stepR_len [] c
  generalize stepP [] c = P1 at *
  generalize stepR [] c = R1 at *
  go_enter Try.func15, Try.ntmps15
  go_wp2_with (first | (at_builtin; refine wpList_app (base := w.heap.size) ?_ rfl elByte rfl rfl (Own.nil _ _ _ _) rfl (hr.kept (((Kept.refl [] w).alloc _).alloc _) (by simp)) (ints_one _ _) (by omega) (by simp; omega); intro a2 c2 w2 ho2 hk2 hat2; simp only [Nat.zero_add, List.nil_append] at ho2; have hsz2 := hk2.size; simp only [World.size_alloc] at hsz2) | (at_builtin; refine wpList_app ?_ rfl elByte rfl rfl (ho2.alloc _) rfl (Rd.block (heap_alloc_new w2 _) rfl) ?o1 (by omega) ?o3; intro a3 c3 w3 ho3 hk3 hat3; have ho3 : Own w3 w.heap.size 5 a3 (p.length + 1) c3 1 (ints .u8 (p ++ [c])) := (by rw [← ints_snoc]; exact ho3); have hsz3 := hk3.size; simp only [World.size_alloc] at hsz3))
  case o1 => simp [Value.oneCell']
  case o3 => simp; omega
  refine (hbig'.out _ _ _ _ ho3.rd).mono ?_
  rintro e w4 ⟨rfl, hk4⟩
  have hK3 : Kept [] ((w.alloc (.cells #[.slice a p.length cap] 33)).alloc (.cells #[.slice none 0 0] 33)) w3 := (hk2.alloc _).trans hk3 (fun x hx => .inr (by rcases hat2 x hx with h | h; simp [blk] at h; exact h))
  have hK4 := hK3.trans hk4 (by simp)
  have ho4 := ho3.kept hk4 (by simp)
  have c2' : w4.cell? ⟨w.heap.size, 0, none⟩ = some (.slice a p.length cap) := hK4.cell (by simp [go_sem]) (by simp)
  have c5 : w4.cell? ⟨w.heap.size + 1, 0, none⟩ = some (.slice none 0 0) := hK4.cell (by simp [go_sem]) (by simp)
  have f5 : w4.frozen? ⟨w.heap.size + 1, 0, none⟩ = false := hK4.frozen (v := .slice none 0 0) (by simp [go_sem]) (by simp [go_sem]) (by simp)
  have s5 := hK4.size
  simp only [World.size_alloc] at s5
  have s5' : w.heap.size + 1 < w4.heap.size := by omega
  have pne : ((p.length : Int) == 0) = false := beq_eq_false_iff_ne.2 (by omega)
  go_wp2_with fail
  refine (hrec'.out w4).mono ?_
  rintro e w5 ⟨an, nn, cn, al, nl, cl, rfl, hrn, hgn, hol, hk5⟩
  have hK5 := hK4.trans hk5 (by simp)
  have s6 := hK5.size
  simp only [World.size_alloc] at s6
  have hnl : nl ≤ 2 := by have := hol.len; rw [ints_len] at this; omega
  have c6 : w5.cell? ⟨w.heap.size + 1, 0, none⟩ = some (.slice none 0 0) := hk5.cell c5 (by simp)
  have f6 : w5.frozen? ⟨w.heap.size + 1, 0, none⟩ = false := hk5.frozen c5 f5 (by simp)
  have hkA : Kept [] w w5 := (((Kept.refl [] w).alloc _).alloc _).trans hK5 (by simp)
  go_wp2_with fail
  have c6n : (w5.alloc (.cells #[.slice an nn cn] 33)).cell? ⟨w5.heap.size, 0, none⟩ = some (.slice an nn cn) := by simp [go_sem]
  have hk6 : Kept [] w5 (w5.alloc (.cells #[.slice an nn cn] 33)) := (Kept.refl [] w5).alloc _
  have hs6 : (w5.alloc (.cells #[.slice an nn cn] 33)).heap.size = w5.heap.size + 1 := by simp
  generalize w5.alloc (.cells #[.slice an nn cn] 33) = w6 at *
  have hs6' := hide hs6
  have hs6a : w5.heap.size < w6.heap.size := by omega
  have hs6b : w.heap.size + 1 < w6.heap.size := by omega
  clear hs6
  have c6' := hk6.cell c6 (by simp)
  have f6' := hk6.frozen c6 f6 (by simp)
  have hr6 := hol.rd.kept hk6 (by simp)
  go_region_held3 (fun w' => w'.cell? ⟨w5.heap.size, 0, none⟩ = some (.slice an nn cn))
    (first
      | exact ((Kept.refl [] w6).drew).cell c6n (by simp)
      | exact (((Kept.refl [] w6).alloc _).drew).cell c6n (by simp)
      | exact hk8.cell c6n (by simp; omega)
      | exact ((Kept.refl [w.heap.size + 1] w7).setCell (.inl (by simp)) _).cell (hk8.cell c6n (by simp; omega)) (by simp; omega))
    ((refine step_app (a := some ⟨w6.heap.size, 0, none⟩) (n := 1) (c := 1) (xs := [.int .i32 65533]) (base := w.heap.size) ?_ (by rfl) elRune (by rfl) (by rfl) (Own.of_block (cur := #[.int .i32 65533]) (by omega) (heap_alloc_new w6.drew _) (by rfl) (by unfold maxLen; omega)) (by rfl) (hr6.kept (((Kept.refl [] w6).alloc _).drew) (by simp)) (ints_one _ _) (by omega) (by simp; omega); intro a7 c7 w7 ho7 hk7 hat7; have hk8 := ((Kept.refl [w6.heap.size] w6).alloc _).drew.trans hk7 (by simp [blk]); have c8 := hk8.cell c6' (by simp; omega); have f8 := hk8.frozen c6' f6' (by simp; omega)))
  go_wp2_with fail
  refine bodyPost_ret (v := .tuple #[.agg #[.slice an nn cn], .slice a7 (1 + nl) c7]) (by simp [results, Try.results15, go_sem, c8]) rfl ?_
  have hkS : Kept [w.heap.size + 1] w7 (w7.setCell ⟨w.heap.size + 1, 0, none⟩ (.slice an nn cn)) := (Kept.refl _ _).setCell (.inl (by simp)) _
  have hk58 : Kept [w6.heap.size] w5 w7 := (hk6.mono (by simp)).trans hk8 (fun x hx => .inl hx)
  have hkB : Kept [] w w7 := hkA.trans hk58 (by simp; omega)
  have h7ge : ∀ g ∈ blk a7, w6.heap.size ≤ g := fun g hg => by
    rcases hat7 g hg with h | h
    · simp [blk] at h; omega
    · have : w6.heap.size + 1 ≤ g := by simpa using h
      omega
  have s67 := hk8.size
  have s45 := hk5.size
  exact ⟨an, nn, cn, a7, _, c7, rfl, (hrn.kept hk58 (fun g hg => by have := (hgn g hg).2; simp; omega)).kept hkS (fun g hg => by have := (hgn g hg).1; simp; omega),
    fun g hg => ⟨by have := (hgn g hg).1; omega, by have := (hgn g hg).2; simp; omega⟩,
    Own.kept (show Own w7 w.heap.size 21 a7 (1 + nl) c7 1 (ints .i32 (65533 :: R1)) from by simpa [ints] using ho7) hkS (fun g hg => by have := h7ge g hg; simp; omega), hkB.setCell (.inr (by simp)) _⟩


theorem rStep_any (a : Option Addr) (n cap : Nat) (p : List Int) (c : Int) (w : World) (hi : Inv p) (hr : Rd w a n 1 (ints .u8 p)) (hc : 0 ≤ c ∧ c ≤ 255) :
    Calls Try.prog 15 #[.agg #[.slice a n cap], .int .u8 c] w (RStepRet (stepP p c) (stepR p c) w) := by
  cases h1 : isB p c
  · have h2 : wholeB p c = false := by simp [wholeB, h1]
    by_cases hp : p = []
    · subst hp
      rw [(step_bad h1).1, (step_bad h1).2]
      exact rStep_bad a n cap [] c w hi hr hc rfl h1 h2
    · rw [(step_not hp h1).1, (step_not hp h1).2]
      exact rStep_not a n cap p c w hi hr hc hp h1 h2
  · cases h2 : wholeB p c
    · rw [(step_is hi h1 h2).1, (step_is hi h1 h2).2]
      exact rStep_is a n cap p c w hi hr hc h1 h2
    · rw [(step_whole hi h2).1, (step_whole hi h2).2]
      exact rStep_whole a n cap p c w hi hr hc h1 h2
end Go.Proofs.Ytjcoeapopkkcbaa
