/- The reference's Text. -/
import Derived.Test.YtkhdnaopdhnkaaaDoorCelTxt
namespace Go.Proofs.YtkhdnaopdhnkaaaDoor
open Go.RowKit
set_option linter.unusedVariables false
set_option maxRecDepth 100000

set_option maxHeartbeats 1000000 in
theorem rText_any (c : Cl) (w : World) : Calls Tryd.prog 61 #[.agg #[.int .i32 c.r, .int .i32 c.m0, .int .i32 c.m1, .int .i32 c.m2, .int .i64 c.w, .int .i64 c.p.f.k, .int .u8 c.p.f.i, .int .u8 c.p.f.r, .int .u8 c.p.f.g, .int .u8 c.p.f.b, .int .i64 c.p.b.k, .int .u8 c.p.b.i, .int .u8 c.p.b.r, .int .u8 c.p.b.g, .int .u8 c.p.b.b, .int .u8 c.p.fl]] w fun e w' => e = .returned (.string (textC c)) ∧ Kept [] w w' := by
  obtain ⟨W0, hW0⟩ : ∃ x : World, x = w.alloc (.cells #[.int .i32 c.r, .int .i32 c.m0, .int .i32 c.m1, .int .i32 c.m2, .int .i64 c.w, .int .i64 c.p.f.k, .int .u8 c.p.f.i, .int .u8 c.p.f.r, .int .u8 c.p.f.g, .int .u8 c.p.f.b, .int .i64 c.p.b.k, .int .u8 c.p.b.i, .int .u8 c.p.b.r, .int .u8 c.p.b.g, .int .u8 c.p.b.b, .int .u8 c.p.fl] 60) := ⟨_, rfl⟩
  have hk0 : Kept [] w W0 := by rw [hW0]; exact (Kept.refl [] w).alloc _
  have hs0 : Hid (W0.heap.size = w.heap.size + 1) := hide (by rw [hW0]; simp)
  have hc0 : Hid (CelIn W0 w.heap.size c) := hide (by rw [hW0]; exact CelIn.new w c)
  have hR := hide (show textC c = if c.w = 0 then ⟨#[]⟩ else if c.r = 0 then ⟨#[32]⟩ else runesBytes (textL c) from rfl)
  generalize textC c = R at *
  go_enter Tryd.func61, Tryd.ntmps61
  go_upto_region 1 with fail
  rw [← hW0]
  clear hW0
  obtain ⟨q0, q1, q2, q3, q4, _⟩ := hc0.out.at
  by_cases h00 : c.w = 0
  · have hd0 : (c.w == 0) = true := by simpa using h00
    have h0 := hide h00
    clear h00
    go_wp2_with fail
    go_ret
    exact ⟨by rw [hR.out, if_pos h0.out]; rfl, hk0⟩
  · have hd0 : (c.w == 0) = false := by simpa using h00
    have h0 := hide h00
    clear h00
    by_cases h10 : c.r = 0
    · have hd1 : (c.r == 0) = true := by simpa using h10
      have h1 := hide h10
      clear h10
      go_wp2_with fail
      go_ret
      exact ⟨by rw [hR.out, if_neg h0.out, if_pos h1.out]; rfl, hk0⟩
    · have hd1 : (c.r == 0) = false := by simpa using h10
      have h1 := hide h10
      clear h10
      go_upto_region 7 with fail
      obtain ⟨W3, hW3⟩ : ∃ x : World, x = W0.alloc (.cells #[.int .i32 c.r] 21) := ⟨_, rfl⟩
      have hk3 : Kept [] W0 W3 := by rw [hW3]; exact (Kept.refl [] W0).alloc _
      have hlt : w.heap.size < W0.heap.size := hc0.out.lt
      have hown : Own W3 (w.heap.size + 1) 21 (some ⟨W0.heap.size, 0, none⟩) 1 1 1 (ints .i32 (runesTo c 0)) := by
        rw [hW3]
        exact Own.of_block (by omega) (heap_alloc_new W0 _) rfl (by decide)
      rw [← hW3]
      clear hW3 q0 q1 q2 q3 q4
      have hE := hide (show textL c = runesTo c 3 from rfl)
      have hN := hide (runesTo_next c)
      have hL := hide (runesTo_len c)
      go_loopg [3, 4, 14, 15, 16, 17, 18, 19, 20, 21, 22, 23, 24, 25, 26, 27, 28, 29] 3 (fun kx s3 s4 s14 s15 s16 s17 s18 s19 s20 s21 s22 s23 s24 s25 s26 s27 s28 s29 wr => ∃ (k n cp : Nat) (a : Option Addr), s3 = .slice a n cp ∧ s4 = .int .i64 k ∧ k ≤ 3 ∧ 3 - k ≤ kx ∧ Own wr (w.heap.size + 1) 21 a n cp 1 (ints .i32 (runesTo c k)) ∧ Kept [] W0 wr)
      case atStart => exact ⟨0, 1, 1, _, rfl, rfl, by omega, by omega, hown, hk3⟩
      case round =>
        obtain ⟨k, n, cp, a, rfl, rfl, hk, hg, ho, hkr⟩ := hrel
        have hn4 : n ≤ 4 := by have h1 := ho.len; have h2 := hL.out k; rw [ints_len] at h1; omega
        by_cases h3 : k = 3
        · subst h3
          have hcv := conv_runes wr a n cp _ ho.rd
          go_wp2_with fail
          go_ret
          exact ⟨by rw [hR.out, if_neg h0.out, if_neg h1.out, hE.out]; rfl, hk0.trans hkr (by simp)⟩
        · have hN' := hide (hN.out k (by omega))
          obtain ⟨_, q1, q2, q3, _⟩ := (hc0.out.kept hkr (by simp)).at
          have hidx : wr.cell? ⟨w.heap.size, 1 + k, none⟩ = some (.int .i32 (mkAt c k)) := by
            have : k = 0 ∨ k = 1 ∨ k = 2 := by omega
            rcases this with rfl | rfl | rfl
            · exact q1
            · exact q2
            · exact q3
          clear q1 q2 q3
          have hk3z : (k : Int) < 3 := by omega
          have hb := Nat.lt_of_lt_of_le hlt hkr.size
          generalize mkAt c k = m at *
          by_cases hm0 : m = 0
          · have hd : (m != 0) = false := by simp [hm0]
            have hm := hide hm0
            clear hm0
            go_wp2_with fail
            go_roundg (3 - (k + 1))
            case measure => omega
            case rel => exact ⟨k + 1, n, cp, a, rfl, by push_cast; rfl, by omega, by omega, by rw [hN'.out, if_pos hm.out]; exact ho, hkr⟩
          · have hd : (m != 0) = true := by simp [hm0]
            have hm := hide hm0
            clear hm0
            go_wp2_with (at_builtin; refine wpList_app ?_ rfl elInt32 rfl rfl (ho.alloc _) rfl (Rd.block (heap_alloc_new wr _) rfl) ?o1 ?o2 ?o3; intro a' c' w4 ho4 hk4 hat4)
            case o1 => simp [Value.oneCell']
            case o2 => omega
            case o3 => simp; omega
            go_roundg (3 - (k + 1))
            case measure => omega
            case rel => exact ⟨k + 1, _, _, a', rfl, by push_cast; rfl, by omega, by omega, by rw [hN'.out, if_neg hm.out]; simpa [ints] using ho4, (hkr.alloc _).trans hk4 (fun x hx => .inr (by have := (ho.ge x hx).1; have := hs0.out; omega))⟩
end Go.Proofs.YtkhdnaopdhnkaaaDoor
