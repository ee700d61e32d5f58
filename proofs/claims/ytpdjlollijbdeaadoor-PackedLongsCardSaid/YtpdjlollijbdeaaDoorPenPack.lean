/- Pens: their words, and back: the program's and the reference's. -/
import Derived.Test.YtpdjlollijbdeaaDoorPenBits
import Derived.Test.YtpdjlollijbdeaaDoorPenFn
namespace Go.Proofs.YtpdjlollijbdeaaDoor
open Go.RowKit
set_option linter.unusedVariables false

set_option maxHeartbeats 300000 in
theorem Pack_ok (p : Pn) (h : penOk p) (hb : PnB p) (w : World) : Calls Tryd.prog 40 #[.agg #[.int .i64 p.f.k, .int .u8 p.f.i, .int .u8 p.f.r, .int .u8 p.f.g, .int .u8 p.f.b, .int .i64 p.b.k, .int .u8 p.b.i, .int .u8 p.b.r, .int .u8 p.b.g, .int .u8 p.b.b, .int .u8 p.fl]] w fun e w' => e = .returned (.tuple #[.int .u64 (packI p), .int .i64 0]) ∧ Kept [] w w' := by
  have hV := hide (fun w1 => valid_is p true (decide_eq_true h) w1)
  have hF := hide (fun w1 => colorBits_any p.f h.1 hb.f w1)
  have hB := hide (fun w1 => colorBits_any p.b h.2 hb.b w1)
  have hM := hide (pack_math (bits_bound h.1 hb.f).1 (bits_bound h.1 hb.f).2 (bits_bound h.2 hb.b).1 (bits_bound h.2 hb.b).2 hb.fl.1 hb.fl.2)
  have e1 : packI p = bitsI p.f + 67108864 * bitsI p.b + 4503599627370496 * p.fl := rfl
  rw [e1]
  have a0 := (bits_bound h.1 hb.f).1; have a1 := (bits_bound h.1 hb.f).2; have b0 := (bits_bound h.2 hb.b).1; have b1 := (bits_bound h.2 hb.b).2
  have f0 := hb.fl.1; have f1 := hb.fl.2
  clear e1 h hb
  generalize bitsI p.f = A at *
  generalize bitsI p.b = B at *
  go_enter Tryd.func40, Tryd.ntmps40
  go_wp2_with fail
  obtain ⟨W0, hW0⟩ : ∃ x : World, x = w.alloc (.cells #[.int .i64 p.f.k, .int .u8 p.f.i, .int .u8 p.f.r, .int .u8 p.f.g, .int .u8 p.f.b, .int .i64 p.b.k, .int .u8 p.b.i, .int .u8 p.b.r, .int .u8 p.b.g, .int .u8 p.b.b, .int .u8 p.fl] 28) := ⟨_, rfl⟩
  have hk0 : Kept [] w W0 := by rw [hW0]; exact (Kept.refl [] w).alloc _
  have hp0 : PenAt W0 w.heap.size p := by rw [hW0]; exact PenAt.new w p
  rw [← hW0]
  clear hW0
  refine (hV.out _).mono ?_
  rintro e w1 ⟨rfl, hk1⟩
  have hK1 : Kept [] w w1 := hk0.trans hk1 (by simp)
  have hp1 : Hid (PenAt w1 w.heap.size p) := hide (hp0.kept hk1 (by simp))
  clear hp0 hk1 hk0
  go_wp2_with fail
  obtain ⟨q0, q1, q2, q3, q4, q5, q6, q7, q8, q9, q10⟩ := hp1.out
  go_region_held3 (fun w' => w'.cell? ⟨w.heap.size, 0, none⟩ = some (.int .i64 p.f.k) ∧ w'.cell? ⟨w.heap.size, 1, none⟩ = some (.int .u8 p.f.i) ∧ w'.cell? ⟨w.heap.size, 2, none⟩ = some (.int .u8 p.f.r) ∧ w'.cell? ⟨w.heap.size, 3, none⟩ = some (.int .u8 p.f.g) ∧ w'.cell? ⟨w.heap.size, 4, none⟩ = some (.int .u8 p.f.b) ∧ w'.cell? ⟨w.heap.size, 5, none⟩ = some (.int .i64 p.b.k) ∧ w'.cell? ⟨w.heap.size, 6, none⟩ = some (.int .u8 p.b.i) ∧ w'.cell? ⟨w.heap.size, 7, none⟩ = some (.int .u8 p.b.r) ∧ w'.cell? ⟨w.heap.size, 8, none⟩ = some (.int .u8 p.b.g) ∧ w'.cell? ⟨w.heap.size, 9, none⟩ = some (.int .u8 p.b.b) ∧ w'.cell? ⟨w.heap.size, 10, none⟩ = some (.int .u8 p.fl))
    (first
      | exact hp1.out.kept (hkF.trans hkB (by simp)) (by simp)
      | exact hp1.out.kept hkF (by simp)
      | exact hp1.out.kept ((Kept.refl [] w1).drew) (by simp))
    (first
      | (go_at_call 59; refine (hB.out wF).mono ?_; rintro e wB ⟨rfl, hkB⟩)
      | (go_at_call 59; refine (hF.out w1.drew).mono ?_; rintro e wF ⟨rfl, hkF0⟩; have hkF : Kept [] w1 wF := (Kept.refl [] w1).drew.trans hkF0 (by simp)))
  go_wp2_with fail
  go_ret2
  refine ⟨?_, hK1.trans (hkF.trans hkB (by simp)) (by simp)⟩
  rw [wraps_u64 p.fl (by omega) (by omega), wraps_u64 (B * 67108864) (by omega) (by omega), wraps_u64 (p.fl * 4503599627370496) (by omega) (by omega), hM.out]
  rfl

set_option maxHeartbeats 1000000 in
theorem Pack_bad (p : Pn) (h : ¬ penOk p) (w : World) : Calls Tryd.prog 40 #[.agg #[.int .i64 p.f.k, .int .u8 p.f.i, .int .u8 p.f.r, .int .u8 p.f.g, .int .u8 p.f.b, .int .i64 p.b.k, .int .u8 p.b.i, .int .u8 p.b.r, .int .u8 p.b.g, .int .u8 p.b.b, .int .u8 p.fl]] w fun e w' => e = .returned (.tuple #[.int .u64 0, .int .i64 2]) ∧ Kept [] w w' := by
  have hV := hide (fun w1 => valid_is p false (decide_eq_false h) w1)
  clear h
  go_enter Tryd.func40, Tryd.ntmps40
  go_wp2_with fail
  refine (hV.out _).mono ?_
  rintro e w1 ⟨rfl, hk1⟩
  go_wp2_with fail
  go_ret2
  exact ⟨rfl, ((Kept.refl _ _).alloc _).trans hk1 (by simp)⟩

theorem Pack_is (p : Pn) (hb : PnB p) (a e : Int) (h : packE p = (a, e)) (w : World) : Calls Tryd.prog 40 #[.agg #[.int .i64 p.f.k, .int .u8 p.f.i, .int .u8 p.f.r, .int .u8 p.f.g, .int .u8 p.f.b, .int .i64 p.b.k, .int .u8 p.b.i, .int .u8 p.b.r, .int .u8 p.b.g, .int .u8 p.b.b, .int .u8 p.fl]] w fun r w' => r = .returned (.tuple #[.int .u64 a, .int .i64 e]) ∧ Kept [] w w' := by
  unfold packE at h
  split at h
  · next hv => cases h; exact Pack_ok p hv hb w
  · next hv => cases h; exact Pack_bad p hv w

set_option maxHeartbeats 2000000 in
theorem rPack_ok (p : Pn) (h : penOk p) (hb : PnB p) (w : World) : Calls Tryd.prog 32 #[.agg #[.int .i64 p.f.k, .int .u8 p.f.i, .int .u8 p.f.r, .int .u8 p.f.g, .int .u8 p.f.b, .int .i64 p.b.k, .int .u8 p.b.i, .int .u8 p.b.r, .int .u8 p.b.g, .int .u8 p.b.b, .int .u8 p.fl]] w fun e w' => e = .returned (.int .u64 (packI p)) ∧ Kept [] w w' := by
  have hF := hide (fun w1 => rbits_any p.f h.1 hb.f w1)
  have hB := hide (fun w1 => rbits_any p.b h.2 hb.b w1)
  have e1 : packI p = bitsI p.f + 67108864 * bitsI p.b + 4503599627370496 * p.fl := rfl
  rw [e1]
  have a0 := (bits_bound h.1 hb.f).1; have a1 := (bits_bound h.1 hb.f).2; have b0 := (bits_bound h.2 hb.b).1; have b1 := (bits_bound h.2 hb.b).2
  have f0 := hb.fl.1; have f1 := hb.fl.2
  clear e1 h hb
  generalize bitsI p.f = A at *
  generalize bitsI p.b = B at *
  go_enter Tryd.func32, Tryd.ntmps32
  go_wp2_with fail
  obtain ⟨W0, hW0⟩ : ∃ x : World, x = w.alloc (.cells #[.int .i64 p.f.k, .int .u8 p.f.i, .int .u8 p.f.r, .int .u8 p.f.g, .int .u8 p.f.b, .int .i64 p.b.k, .int .u8 p.b.i, .int .u8 p.b.r, .int .u8 p.b.g, .int .u8 p.b.b, .int .u8 p.fl] 28) := ⟨_, rfl⟩
  have hk0 : Kept [] w W0 := by rw [hW0]; exact (Kept.refl [] w).alloc _
  have hp0 : Hid (PenAt W0 w.heap.size p) := hide (by rw [hW0]; exact PenAt.new w p)
  rw [← hW0]
  clear hW0
  obtain ⟨q0, q1, q2, q3, q4, q5, q6, q7, q8, q9, q10⟩ := hp0.out
  go_region_held3 (fun w' => w'.cell? ⟨w.heap.size, 0, none⟩ = some (.int .i64 p.f.k) ∧ w'.cell? ⟨w.heap.size, 1, none⟩ = some (.int .u8 p.f.i) ∧ w'.cell? ⟨w.heap.size, 2, none⟩ = some (.int .u8 p.f.r) ∧ w'.cell? ⟨w.heap.size, 3, none⟩ = some (.int .u8 p.f.g) ∧ w'.cell? ⟨w.heap.size, 4, none⟩ = some (.int .u8 p.f.b) ∧ w'.cell? ⟨w.heap.size, 5, none⟩ = some (.int .i64 p.b.k) ∧ w'.cell? ⟨w.heap.size, 6, none⟩ = some (.int .u8 p.b.i) ∧ w'.cell? ⟨w.heap.size, 7, none⟩ = some (.int .u8 p.b.r) ∧ w'.cell? ⟨w.heap.size, 8, none⟩ = some (.int .u8 p.b.g) ∧ w'.cell? ⟨w.heap.size, 9, none⟩ = some (.int .u8 p.b.b) ∧ w'.cell? ⟨w.heap.size, 10, none⟩ = some (.int .u8 p.fl))
    (first
      | exact hp0.out.kept (hkF.trans hkB (by simp)) (by simp)
      | exact hp0.out.kept hkF (by simp)
      | exact hp0.out.kept ((Kept.refl [] W0).drew) (by simp))
    (first
      | (go_at_call 47; refine (hB.out wF).mono ?_; rintro e wB ⟨rfl, hkB⟩)
      | (go_at_call 47; refine (hF.out W0.drew).mono ?_; rintro e wF ⟨rfl, hkF0⟩; have hkF : Kept [] W0 wF := (Kept.refl [] W0).drew.trans hkF0 (by simp)))
  go_wp2_with fail
  go_ret
  refine ⟨ret_int ?_, hk0.trans (hkF.trans hkB (by simp)) (by simp)⟩
  rw [wraps_u64 p.fl (by omega) (by omega), wraps_u64 (67108864 * B) (by omega) (by omega), wraps_u64 (4503599627370496 * p.fl) (by omega) (by omega), wraps_u64 (A + 67108864 * B) (by omega) (by omega), wraps_u64 _ (by omega) (by omega)]

set_option maxHeartbeats 1000000 in
theorem Unpack_is (v : Int) (h : 0 ≤ v ∧ v < 18446744073709551616) (p : Pn) (e : Int) (he : unpackE v = (p, e)) (w : World) : Calls Tryd.prog 48 #[.int .u64 v] w fun r w' => r = .returned (.tuple #[.agg #[.int .i64 p.f.k, .int .u8 p.f.i, .int .u8 p.f.r, .int .u8 p.f.g, .int .u8 p.f.b, .int .i64 p.b.k, .int .u8 p.b.i, .int .u8 p.b.r, .int .u8 p.b.g, .int .u8 p.b.b, .int .u8 p.fl], .int .i64 e]) ∧ Kept [] w w' := by
  obtain ⟨v0, v1⟩ := h
  have hA : bits .and .u64 v 67108863 = v % 67108864 := and64 26 (by decide) (by decide) v0 v1
  have hA2 : bits .and .u64 (v / 67108864) 67108863 = v / 67108864 % 67108864 := and64 26 (by decide) (by decide) (by omega) (by omega)
  obtain ⟨x, hx⟩ : ∃ x, x = unpackI v := ⟨_, rfl⟩
  have hF : Hid (∀ w1, Calls Tryd.prog 60 #[.int .u64 (v % 67108864)] w1 fun e w' => e = .returned (.agg #[.int .i64 x.f.k, .int .u8 x.f.i, .int .u8 x.f.r, .int .u8 x.f.g, .int .u8 x.f.b]) ∧ Kept [] w1 w') := hide (by subst hx; exact fun w1 => colorOf_any (v % 67108864) (by omega) w1)
  have hB : Hid (∀ w1, Calls Tryd.prog 60 #[.int .u64 (v / 67108864 % 67108864)] w1 fun e w' => e = .returned (.agg #[.int .i64 x.b.k, .int .u8 x.b.i, .int .u8 x.b.r, .int .u8 x.b.g, .int .u8 x.b.b]) ∧ Kept [] w1 w') := hide (by subst hx; exact fun w1 => colorOf_any (v / 67108864 % 67108864) (by omega) w1)
  have hfl : v / 4503599627370496 % 256 = x.fl := by subst hx; rfl
  have hP : Hid (∀ w1, Calls Tryd.prog 40 #[.agg #[.int .i64 x.f.k, .int .u8 x.f.i, .int .u8 x.f.r, .int .u8 x.f.g, .int .u8 x.f.b, .int .i64 x.b.k, .int .u8 x.b.i, .int .u8 x.b.r, .int .u8 x.b.g, .int .u8 x.b.b, .int .u8 x.fl]] w1 fun e w' => e = .returned (.tuple #[.int .u64 (packI x), .int .i64 0]) ∧ Kept [] w1 w') := hide (by subst hx; exact fun w1 => Pack_ok _ (unpack_ok v) (unpack_b v) w1)
  have hE : Hid ((if packI x = v then (x, 0) else (zeroP, 12)) = (p, e)) := hide (by subst hx; exact he)
  clear hx he
  go_enter Tryd.func48, Tryd.ntmps48
  go_wp2_with fail
  obtain ⟨W0, hW0⟩ : ∃ x : World, x = w.alloc (.cells #[.int .i64 zeroP.f.k, .int .u8 zeroP.f.i, .int .u8 zeroP.f.r, .int .u8 zeroP.f.g, .int .u8 zeroP.f.b, .int .i64 zeroP.b.k, .int .u8 zeroP.b.i, .int .u8 zeroP.b.r, .int .u8 zeroP.b.g, .int .u8 zeroP.b.b, .int .u8 zeroP.fl] 28) := ⟨_, rfl⟩
  have hk0 : Kept [] w W0 := by rw [hW0]; exact (Kept.refl [] w).alloc _
  have hp0 : Hid (PenIn W0 w.heap.size zeroP) := hide (by rw [hW0]; exact PenIn.new w zeroP)
  have hs0 : W0.heap.size = w.heap.size + 1 := by rw [hW0]; simp
  change Calls _ _ _ (w.alloc (.cells #[.int .i64 zeroP.f.k, .int .u8 zeroP.f.i, .int .u8 zeroP.f.r, .int .u8 zeroP.f.g, .int .u8 zeroP.f.b, .int .i64 zeroP.b.k, .int .u8 zeroP.b.i, .int .u8 zeroP.b.r, .int .u8 zeroP.b.g, .int .u8 zeroP.b.b, .int .u8 zeroP.fl] 28)) _
  rw [← hW0]
  clear hW0
  refine (hF.out _).mono ?_
  rintro r w1 ⟨rfl, hk1⟩
  go_wp2_with fail
  refine (hB.out _).mono ?_
  rintro r w2 ⟨rfl, hk2⟩
  have hK2 : Kept [] W0 w2 := hk1.trans hk2 (by simp)
  clear hk1 hk2
  go_wp2_with fail
  obtain ⟨W3, hW3⟩ : ∃ z : World, z = w2.alloc (.cells #[.int .i64 x.f.k, .int .u8 x.f.i, .int .u8 x.f.r, .int .u8 x.f.g, .int .u8 x.f.b, .int .i64 x.b.k, .int .u8 x.b.i, .int .u8 x.b.r, .int .u8 x.b.g, .int .u8 x.b.b, .int .u8 x.fl] 28) := ⟨_, rfl⟩
  have hk3 : Kept [] w2 W3 := by rw [hW3]; exact (Kept.refl [] w2).alloc _
  have hp3 : PenIn W3 w2.heap.size x := by rw [hW3]; exact PenIn.new w2 x
  rw [← hW3]
  clear hW3
  have hlt : w.heap.size < w2.heap.size := by have := hK2.size; omega
  refine (hP.out _).mono ?_
  rintro r w4 ⟨rfl, hk4⟩
  have hK4 : Kept [] W0 w4 := hK2.trans (hk3.trans hk4 (by simp)) (by simp)
  have hr4 := hp0.out.kept hK4 (by simp)
  have hp4 := hp3.kept hk4 (by simp)
  obtain ⟨q0, q1, q2, q3, q4, q5, q6, q7, q8, q9, q10⟩ := hr4.at
  obtain ⟨f0, f1, f2, f3, f4, f5, f6, f7, f8, f9, f10⟩ := hr4.froz
  obtain ⟨s0, s1, s2, s3, s4, s5, s6, s7, s8, s9, s10⟩ := hp4.at
  clear hk4 hk3 hp3 hp0 hK2
  by_cases c : packI x = v
  · have hE2 := hE.out
    rw [if_pos c] at hE2
    cases hE2
    go_wp2_with fail
    have hn := (hr4.set p).at
    obtain ⟨n0, n1, n2, n3, n4, n5, n6, n7, n8, n9, n10⟩ := hn
    refine bodyPost_ret (v := .tuple #[.agg #[.int .i64 p.f.k, .int .u8 p.f.i, .int .u8 p.f.r, .int .u8 p.f.g, .int .u8 p.f.b, .int .i64 p.b.k, .int .u8 p.b.i, .int .u8 p.b.r, .int .u8 p.b.g, .int .u8 p.b.b, .int .u8 p.fl], .int .i64 0]) (by simp [results, Tryd.results48, go_sem, n0, n1, n2, n3, n4, n5, n6, n7, n8, n9, n10]) rfl ?_
    exact ⟨rfl, (hk0.trans hK4 (by simp)).setPen (.inr (Nat.le_refl _)) p⟩
  · have hE2 := hE.out
    rw [if_neg c] at hE2
    cases hE2
    go_wp2_with fail
    have hn : PenAt (((((((((((w4.setCell ⟨w.heap.size, 0, none⟩ (.int .i64 0)).setCell ⟨w.heap.size, 1, none⟩ (.int .u8 0)).setCell ⟨w.heap.size, 2, none⟩ (.int .u8 0)).setCell ⟨w.heap.size, 3, none⟩ (.int .u8 0)).setCell ⟨w.heap.size, 4, none⟩ (.int .u8 0)).setCell ⟨w.heap.size, 5, none⟩ (.int .i64 0)).setCell ⟨w.heap.size, 6, none⟩ (.int .u8 0)).setCell ⟨w.heap.size, 7, none⟩ (.int .u8 0)).setCell ⟨w.heap.size, 8, none⟩ (.int .u8 0)).setCell ⟨w.heap.size, 9, none⟩ (.int .u8 0)).setCell ⟨w.heap.size, 10, none⟩ (.int .u8 0)) w.heap.size zeroP := (hr4.set zeroP).at
    obtain ⟨n0, n1, n2, n3, n4, n5, n6, n7, n8, n9, n10⟩ := hn
    refine bodyPost_ret (v := .tuple #[.agg #[.int .i64 zeroP.f.k, .int .u8 zeroP.f.i, .int .u8 zeroP.f.r, .int .u8 zeroP.f.g, .int .u8 zeroP.f.b, .int .i64 zeroP.b.k, .int .u8 zeroP.b.i, .int .u8 zeroP.b.r, .int .u8 zeroP.b.g, .int .u8 zeroP.b.b, .int .u8 zeroP.fl], .int .i64 12]) (by simp [results, Tryd.results48, go_sem, n0, n1, n2, n3, n4, n5, n6, n7, n8, n9, n10]) rfl ?_
    exact ⟨rfl, (hk0.trans hK4 (by simp)).setPen (.inr (Nat.le_refl _)) zeroP⟩

set_option maxHeartbeats 2000000 in
theorem rUnpack_is (v : Int) (h : 0 ≤ v ∧ v < 18446744073709551616) (w : World) : Calls Tryd.prog 34 #[.int .u64 v] w fun r w' => r = .returned (.tuple #[.agg #[.int .i64 (unpackI v).f.k, .int .u8 (unpackI v).f.i, .int .u8 (unpackI v).f.r, .int .u8 (unpackI v).f.g, .int .u8 (unpackI v).f.b, .int .i64 (unpackI v).b.k, .int .u8 (unpackI v).b.i, .int .u8 (unpackI v).b.r, .int .u8 (unpackI v).b.g, .int .u8 (unpackI v).b.b, .int .u8 (unpackI v).fl], .bool (packI (unpackI v) == v)]) ∧ Kept [] w w' := by
  obtain ⟨v0, v1⟩ := h
  obtain ⟨x, hx⟩ : ∃ x, x = unpackI v := ⟨_, rfl⟩
  have hF : Hid (∀ w1, Calls Tryd.prog 51 #[.int .u64 (v % 67108864)] w1 fun e w' => e = .returned (.agg #[.int .i64 x.f.k, .int .u8 x.f.i, .int .u8 x.f.r, .int .u8 x.f.g, .int .u8 x.f.b]) ∧ Kept [] w1 w') := hide (by subst hx; exact fun w1 => rcol_any (v % 67108864) (by omega) w1)
  have hB : Hid (∀ w1, Calls Tryd.prog 51 #[.int .u64 (v / 67108864 % 67108864)] w1 fun e w' => e = .returned (.agg #[.int .i64 x.b.k, .int .u8 x.b.i, .int .u8 x.b.r, .int .u8 x.b.g, .int .u8 x.b.b]) ∧ Kept [] w1 w') := hide (by subst hx; exact fun w1 => rcol_any (v / 67108864 % 67108864) (by omega) w1)
  have hfl : v / 4503599627370496 % 256 = x.fl := by subst hx; rfl
  have hP : Hid (∀ w1, Calls Tryd.prog 32 #[.agg #[.int .i64 x.f.k, .int .u8 x.f.i, .int .u8 x.f.r, .int .u8 x.f.g, .int .u8 x.f.b, .int .i64 x.b.k, .int .u8 x.b.i, .int .u8 x.b.r, .int .u8 x.b.g, .int .u8 x.b.b, .int .u8 x.fl]] w1 fun e w' => e = .returned (.int .u64 (packI x)) ∧ Kept [] w1 w') := hide (by subst hx; exact fun w1 => rPack_ok _ (unpack_ok v) (unpack_b v) w1)
  rw [← hx]
  clear hx
  generalize packI x = y at *
  go_enter Tryd.func34, Tryd.ntmps34
  go_wp2_with fail
  obtain ⟨W0, hW0⟩ : ∃ x : World, x = w.alloc (.cells #[.int .i64 zeroP.f.k, .int .u8 zeroP.f.i, .int .u8 zeroP.f.r, .int .u8 zeroP.f.g, .int .u8 zeroP.f.b, .int .i64 zeroP.b.k, .int .u8 zeroP.b.i, .int .u8 zeroP.b.r, .int .u8 zeroP.b.g, .int .u8 zeroP.b.b, .int .u8 zeroP.fl] 28) := ⟨_, rfl⟩
  have hk0 : Kept [] w W0 := by rw [hW0]; exact (Kept.refl [] w).alloc _
  have hp0 : Hid (PenIn W0 w.heap.size zeroP) := hide (by rw [hW0]; exact PenIn.new w zeroP)
  have hs0 : W0.heap.size = w.heap.size + 1 := by rw [hW0]; simp
  change Calls _ _ _ (w.alloc (.cells #[.int .i64 zeroP.f.k, .int .u8 zeroP.f.i, .int .u8 zeroP.f.r, .int .u8 zeroP.f.g, .int .u8 zeroP.f.b, .int .i64 zeroP.b.k, .int .u8 zeroP.b.i, .int .u8 zeroP.b.r, .int .u8 zeroP.b.g, .int .u8 zeroP.b.b, .int .u8 zeroP.fl] 28)) _
  rw [← hW0]
  clear hW0
  refine (hF.out _).mono ?_
  rintro r w1 ⟨rfl, hk1⟩
  go_wp2_with fail
  refine (hB.out _).mono ?_
  rintro r w2 ⟨rfl, hk2⟩
  have hK2 : Kept [] W0 w2 := hk1.trans hk2 (by simp)
  clear hk1 hk2
  go_wp2_with fail
  obtain ⟨W3, hW3⟩ : ∃ z : World, z = w2.alloc (.cells #[.int .i64 x.f.k, .int .u8 x.f.i, .int .u8 x.f.r, .int .u8 x.f.g, .int .u8 x.f.b, .int .i64 x.b.k, .int .u8 x.b.i, .int .u8 x.b.r, .int .u8 x.b.g, .int .u8 x.b.b, .int .u8 x.fl] 28) := ⟨_, rfl⟩
  have hk3 : Kept [] w2 W3 := by rw [hW3]; exact (Kept.refl [] w2).alloc _
  have hp3 : PenIn W3 w2.heap.size x := by rw [hW3]; exact PenIn.new w2 x
  rw [← hW3]
  clear hW3
  have hlt : w.heap.size < w2.heap.size := by have := hK2.size; omega
  have hK3 : Kept [] W0 W3 := hK2.trans hk3 (by simp)
  have hr3 := hp0.out.kept hK3 (by simp)
  have hp3' := hide hp3
  have hr3' := hide hr3
  obtain ⟨s0, s1, s2, s3, s4, s5, s6, s7, s8, s9, s10⟩ := hp3.at
  clear hk3 hp3 hp0 hr3 hK2
  go_region_with (go_at_call 32; refine (hP.out W3.drew).mono ?_; rintro r w4 ⟨rfl, hk40⟩; have hk4 : Kept [] W3 w4 := ((Kept.refl [] W3).drew).trans hk40 (by simp); have hr4 := hr3'.out.kept hk4 (by simp); obtain ⟨q0, q1, q2, q3, q4, q5, q6, q7, q8, q9, q10⟩ := hr4.at; obtain ⟨f0, f1, f2, f3, f4, f5, f6, f7, f8, f9, f10⟩ := hr4.froz; have hp4 := hp3'.out.kept hk4 (by simp); obtain ⟨z0, z1, z2, z3, z4, z5, z6, z7, z8, z9, z10⟩ := hp4.at)
  all_goals
    go_wp2_with fail
    have hn := (hr4.set x).at
    obtain ⟨n0, n1, n2, n3, n4, n5, n6, n7, n8, n9, n10⟩ := hn
    refine bodyPost_ret (v := .tuple #[.agg #[.int .i64 x.f.k, .int .u8 x.f.i, .int .u8 x.f.r, .int .u8 x.f.g, .int .u8 x.f.b, .int .i64 x.b.k, .int .u8 x.b.i, .int .u8 x.b.r, .int .u8 x.b.g, .int .u8 x.b.b, .int .u8 x.fl], .bool (y == v)]) (by simp [results, Tryd.results34, go_sem, n0, n1, n2, n3, n4, n5, n6, n7, n8, n9, n10]) rfl ?_
    exact ⟨rfl, (hk0.trans (hK3.trans hk4 (by simp)) (by simp)).setPen (.inr (Nat.le_refl _)) x⟩
end Go.Proofs.YtpdjlollijbdeaaDoor
