/- cell.Text. -/
import Derived.Test.YtkhdnaopdhnkaaaDoorCelLeaf
namespace Go.Proofs.YtkhdnaopdhnkaaaDoor
open Go.RowKit
set_option linter.unusedVariables false
set_option maxRecDepth 100000

theorem elInt32 : ElemT Tryd.prog 91 21 (.int .i32 0) 1 4 := ⟨Tryd.underlying91, by kernel_rfl, rfl, by decide, by decide⟩
/-- A slice of runes as a string. -/
theorem conv_runes (w : World) (a : Option Addr) (n c : Nat) (l : List Int) (hr : Rd w a n 1 (ints .i32 l)) : (convert 91 9 (.slice a n c)).run Tryd.prog w = .ok (.string (runesBytes l)) w := by
  have hl : l.length = n := by have := hr.1; rw [ints_len] at this; omega
  rcases hr.2 with h0 | ⟨b, o, rfl, hc⟩
  · have : l = [] := by simpa [ints] using h0
    subst this
    simp at hl
    subst hl
    cases a with
    | none => exact run_convert_runes_nil w 91 9 21 0 c Tryd.underlying91 Tryd.underlying21 Tryd.underlying9
    | some ad => exact run_convert_runes (P := Tryd.prog) w 91 9 21 ad 0 c [] (by simp) Tryd.underlying91 Tryd.underlying21 Tryd.underlying9 (by simp)
  · have h := run_convert_runes (P := Tryd.prog) w 91 9 21 ⟨b, o, none⟩ n c l (by omega) Tryd.underlying91 Tryd.underlying21 Tryd.underlying9 (fun j hj => by
      rw [Addr.add_mid]
      exact hc j _ (by simp [ints, List.getD, List.getElem?_eq_getElem hj]))
    rw [← hl, List.take_length] at h
    rw [← hl]
    exact h
/-- The mark k of a cell. -/
def mkAt (c : Cl) (k : Nat) : Int := match k with | 0 => c.m0 | 1 => c.m1 | _ => c.m2
def runesTo (c : Cl) (k : Nat) : List Int := c.r :: nzL (([c.m0, c.m1, c.m2] : List Int).take k)
theorem runesTo_next (c : Cl) (k : Nat) (hk : k < 3) : runesTo c (k + 1) = if mkAt c k = 0 then runesTo c k else runesTo c k ++ [mkAt c k] := by
  have : k = 0 ∨ k = 1 ∨ k = 2 := by omega
  rcases this with rfl | rfl | rfl
  · by_cases h : c.m0 = 0 <;> simp [runesTo, nzL, mkAt, h]
  · by_cases h : c.m1 = 0 <;> by_cases h0 : c.m0 = 0 <;> simp [runesTo, nzL, mkAt, h, h0]
  · by_cases h : c.m2 = 0 <;> by_cases h0 : c.m0 = 0 <;> by_cases h1 : c.m1 = 0 <;> simp [runesTo, nzL, mkAt, h, h0, h1]
theorem runesTo_len (c : Cl) (k : Nat) : (runesTo c k).length ≤ 4 := by
  unfold runesTo nzL
  have := List.length_filter_le (fun x => decide (x ≠ 0)) (([c.m0, c.m1, c.m2] : List Int).take k)
  simp at this ⊢
  omega

theorem index_M0 (c : Cl) (w : World) : (Instr.index 52 (.agg #[.int .i32 c.m0, .int .i32 c.m1, .int .i32 c.m2]) (.int .i64 0)).run Tryd.prog w = .ok (.int .i32 c.m0) w := by kernel_rfl
theorem index_M1 (c : Cl) (w : World) : (Instr.index 52 (.agg #[.int .i32 c.m0, .int .i32 c.m1, .int .i32 c.m2]) (.int .i64 1)).run Tryd.prog w = .ok (.int .i32 c.m1) w := by kernel_rfl
theorem index_M2 (c : Cl) (w : World) : (Instr.index 52 (.agg #[.int .i32 c.m0, .int .i32 c.m1, .int .i32 c.m2]) (.int .i64 2)).run Tryd.prog w = .ok (.int .i32 c.m2) w := by kernel_rfl
theorem index_M (c : Cl) (k : Nat) (hk : k < 3) (w : World) : (Instr.index 52 (.agg #[.int .i32 c.m0, .int .i32 c.m1, .int .i32 c.m2]) (.int .i64 k)).run Tryd.prog w = .ok (.int .i32 (mkAt c k)) w := by
  have : k = 0 ∨ k = 1 ∨ k = 2 := by omega
  rcases this with rfl | rfl | rfl
  · exact index_M0 c w
  · exact index_M1 c w
  · exact index_M2 c w

set_option maxHeartbeats 1000000 in
theorem Text_any (c : Cl) (w : World) : Calls Tryd.prog 59 #[.agg #[.int .i32 c.r, .int .i32 c.m0, .int .i32 c.m1, .int .i32 c.m2, .int .i64 c.w, .int .i64 c.p.f.k, .int .u8 c.p.f.i, .int .u8 c.p.f.r, .int .u8 c.p.f.g, .int .u8 c.p.f.b, .int .i64 c.p.b.k, .int .u8 c.p.b.i, .int .u8 c.p.b.r, .int .u8 c.p.b.g, .int .u8 c.p.b.b, .int .u8 c.p.fl]] w fun e w' => e = .returned (.string (textC c)) ∧ Kept [] w w' := by
  obtain ⟨W0, hW0⟩ : ∃ x : World, x = w.alloc (.cells #[.int .i32 c.r, .int .i32 c.m0, .int .i32 c.m1, .int .i32 c.m2, .int .i64 c.w, .int .i64 c.p.f.k, .int .u8 c.p.f.i, .int .u8 c.p.f.r, .int .u8 c.p.f.g, .int .u8 c.p.f.b, .int .i64 c.p.b.k, .int .u8 c.p.b.i, .int .u8 c.p.b.r, .int .u8 c.p.b.g, .int .u8 c.p.b.b, .int .u8 c.p.fl] 60) := ⟨_, rfl⟩
  have hk0 : Kept [] w W0 := by rw [hW0]; exact (Kept.refl [] w).alloc _
  have hc0 : Hid (CelIn W0 w.heap.size c) := hide (by rw [hW0]; exact CelIn.new w c)
  have hS := hide (fun w1 => spacer_any c w1)
  have hWr := hide (fun w1 => Written_any c w1)
  have hR := hide (show textC c = if c.w = 0 then ⟨#[]⟩ else if c.r = 0 then ⟨#[32]⟩ else runesBytes (textL c) from rfl)
  generalize textC c = R at *
  go_enter Tryd.func59, Tryd.ntmps59
  go_upto_region 1 with fail
  rw [← hW0]
  clear hW0
  have r0 := hc0.out.range
  go_wp2_with (refine wpList_load_cel rfl rfl w.heap.size 0 rfl r0 ?_)
  refine (hS.out _).mono ?_
  rintro e w1 ⟨rfl, hk1⟩
  clear r0
  by_cases h00 : c.w = 0
  · have hd0 : decide (c.w = 0) = true := decide_eq_true h00
    have h0 := hide h00
    clear h00
    go_wp2_with fail
    go_ret
    exact ⟨by rw [hR.out, if_pos h0.out]; rfl, hk0.trans hk1 (by simp)⟩
  · have hd0 : decide (c.w = 0) = false := decide_eq_false h00
    have h0 := hide h00
    clear h00
    have r1 := (hc0.out.kept hk1 (by simp)).range
    go_wp2_with (refine wpList_load_cel rfl rfl w.heap.size 0 rfl r1 ?_)
    refine (hWr.out _).mono ?_
    rintro e w2 ⟨rfl, hk2'⟩
    have hk2 := hk1.trans hk2' (by simp)
    clear r1 hk1 hk2'
    by_cases h10 : c.r = 0
    · have hd1 : decide (c.r = 0) = true := decide_eq_true h10
      have h1 := hide h10
      clear h10
      go_wp2_with fail
      go_ret
      exact ⟨by rw [hR.out, if_neg h0.out, if_pos h1.out]; rfl, hk0.trans hk2 (by simp)⟩
    · have hd1 : decide (c.r = 0) = false := decide_eq_false h10
      have h1 := hide h10
      clear h10
      have q0 := (hc0.out.kept hk2 (by simp)).at.1
      go_upto_region 6 with fail
      clear q0
      obtain ⟨W3, hW3⟩ : ∃ x : World, x = w2.alloc (.cells #[.int .i32 c.r] 21) := ⟨_, rfl⟩
      have hk3 : Kept [] W0 W3 := by rw [hW3]; exact hk2.alloc _
      have hlt : w.heap.size < w2.heap.size := Nat.lt_of_lt_of_le hc0.out.lt hk2.size
      have hown : Own W3 w.heap.size 21 (some ⟨w2.heap.size, 0, none⟩) 1 1 1 (ints .i32 (runesTo c 0)) := by
        rw [hW3]
        exact Own.of_block (by omega) (heap_alloc_new w2 _) rfl (by decide)
      rw [← hW3]
      clear hW3
      obtain ⟨q0, q1, q2, q3, _⟩ := (hc0.out.kept hk3 (by simp)).at
      go_upto_region 7 with fail
      clear q0 q1 q2 q3
      have hE := hide (show textL c = runesTo c 3 from rfl)
      have hN := hide (runesTo_next c)
      have hL := hide (runesTo_len c)
      go_loopg [3, 5, 18, 19, 20, 21, 22, 23, 24, 25, 26, 27] 3 (fun kx s3 s5 s18 s19 s20 s21 s22 s23 s24 s25 s26 s27 wr => ∃ (k n cp : Nat) (a : Option Addr), s3 = .slice a n cp ∧ s18 = .int .i64 k ∧ k ≤ 3 ∧ 3 - k ≤ kx ∧ Own wr w.heap.size 21 a n cp 1 (ints .i32 (runesTo c k)) ∧ Kept [] w wr)
      case atStart => exact ⟨0, 1, 1, _, rfl, rfl, by omega, by omega, hown, hk0.trans hk3 (by simp)⟩
      case round =>
        obtain ⟨k, n, cp, a, rfl, rfl, hk, hg, ho, hkr⟩ := hrel
        have hn4 : n ≤ 4 := by have h1 := ho.len; have h2 := hL.out k; rw [ints_len] at h1; omega
        by_cases h3 : k = 3
        · subst h3
          have hcv := conv_runes wr a n cp _ ho.rd
          go_wp2_with fail
          go_ret
          exact ⟨by rw [hR.out, if_neg h0.out, if_neg h1.out, hE.out]; rfl, hkr⟩
        · have hN' := hide (hN.out k (by omega))
          have hidx : (Instr.index 52 (.agg #[.int .i32 c.m0, .int .i32 c.m1, .int .i32 c.m2]) (.int .i64 k)).run Tryd.prog wr = .ok (.int .i32 (mkAt c k)) wr := index_M c k (by omega) wr
          have hb := hkr.size
          generalize mkAt c k = m at *
          by_cases hm0 : m = 0
          · have hd : (m != 0) = false := by simp [hm0]
            have hm := hide hm0
            clear hm0
            go_wp2_with fail
            go_roundg (3 - (k + 1))
            case measure => omega
            case rel => exact ⟨k + 1, n, cp, a, rfl, by push_cast; rfl, by omega, by omega, by rw [hN'.out, if_pos hm.out]; exact ho, hkr⟩
          · have hd : (m != 0) = true := by simp [hm0]
            have hm := hide hm0
            clear hm0
            go_wp2_with (at_builtin; refine wpList_app ?_ rfl elInt32 rfl rfl (ho.alloc _) rfl (Rd.block (heap_alloc_new wr _) rfl) ?o1 ?o2 ?o3; intro a' c' w4 ho4 hk4 hat4)
            case o1 => simp [Value.oneCell']
            case o2 => omega
            case o3 => simp; omega
            go_roundg (3 - (k + 1))
            case measure => omega
            case rel => exact ⟨k + 1, _, _, a', rfl, by push_cast; rfl, by omega, by omega, by rw [hN'.out, if_neg hm.out]; simpa [ints] using ho4, (hkr.alloc _).trans hk4 (fun x hx => .inr (ho.ge x hx).1)⟩
end Go.Proofs.YtkhdnaopdhnkaaaDoor
