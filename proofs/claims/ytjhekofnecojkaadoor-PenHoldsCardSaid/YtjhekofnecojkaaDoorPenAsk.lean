/- The statements' own helpers: each answers true where the contract says what it asks. -/
import Derived.Test.YtjhekofnecojkaaDoorPenFlags
namespace Go.Proofs.YtjhekofnecojkaaDoor
open Go.RowKit
set_option linter.unusedVariables false

set_option maxHeartbeats 1000000 in
theorem packs_is (p : Pn) (hb : PnB p) (a e : Int) (h : packE p = (a, e)) (w : World) : Calls Tryd.prog 12 #[.agg #[.int .i64 p.f.k, .int .u8 p.f.i, .int .u8 p.f.r, .int .u8 p.f.g, .int .u8 p.f.b, .int .i64 p.b.k, .int .u8 p.b.i, .int .u8 p.b.r, .int .u8 p.b.g, .int .u8 p.b.b, .int .u8 p.fl], .int .u64 a, .int .i64 e] w fun r w' => r = .returned (.bool true) ∧ Kept [] w w' := by
  have hP := hide (fun w1 => Pack_is p hb a e h w1)
  clear h hb
  go_enter Tryd.func12, Tryd.ntmps12
  go_wp2_with fail
  refine (hP.out _).mono ?_
  rintro r w1 ⟨rfl, hk1⟩
  go_wp2_with fail
  go_ret
  exact ⟨by simp, ((Kept.refl _ _).alloc _).trans hk1 (by simp)⟩

set_option maxHeartbeats 1000000 in
theorem unpacks_is (v : Int) (hv : 0 ≤ v ∧ v < 18446744073709551616) (p : Pn) (e : Int) (h : unpackE v = (p, e)) (w : World) : Calls Tryd.prog 15 #[.int .u64 v, .agg #[.int .i64 p.f.k, .int .u8 p.f.i, .int .u8 p.f.r, .int .u8 p.f.g, .int .u8 p.f.b, .int .i64 p.b.k, .int .u8 p.b.i, .int .u8 p.b.r, .int .u8 p.b.g, .int .u8 p.b.b, .int .u8 p.fl], .int .i64 e] w fun r w' => r = .returned (.bool true) ∧ Kept [] w w' := by
  have hP := hide (fun w1 => Unpack_is v hv p e h w1)
  clear h hv
  go_enter Tryd.func15, Tryd.ntmps15
  go_wp2_with fail
  obtain ⟨W0, hW0⟩ : ∃ x : World, x = w.alloc (.cells #[.int .i64 p.f.k, .int .u8 p.f.i, .int .u8 p.f.r, .int .u8 p.f.g, .int .u8 p.f.b, .int .i64 p.b.k, .int .u8 p.b.i, .int .u8 p.b.r, .int .u8 p.b.g, .int .u8 p.b.b, .int .u8 p.fl] 27) := ⟨_, rfl⟩
  have hk0 : Kept [] w W0 := by rw [hW0]; exact (Kept.refl [] w).alloc _
  have hp0 : PenIn W0 w.heap.size p := by rw [hW0]; exact PenIn.new w p
  rw [← hW0]
  clear hW0
  refine (hP.out _).mono ?_
  rintro r w1 ⟨rfl, hk1⟩
  obtain ⟨q0, q1, q2, q3, q4, q5, q6, q7, q8, q9, q10⟩ := (hp0.kept hk1 (by simp)).at
  have hlt : w.heap.size < w1.heap.size := World.block_lt_of_cell? w1 _ q0
  go_wp2_with fail
  go_ret
  exact ⟨by simp, (hk0.trans hk1 (by simp)).alloc _⟩

set_option maxHeartbeats 1000000 in
theorem with_is (p : Pn) (f : Int) (hf : Byte f) (q : Pn) (no : Int) (h : withE p f = (q, no)) (w : World) : Calls Tryd.prog 28 #[.agg #[.int .i64 p.f.k, .int .u8 p.f.i, .int .u8 p.f.r, .int .u8 p.f.g, .int .u8 p.f.b, .int .i64 p.b.k, .int .u8 p.b.i, .int .u8 p.b.r, .int .u8 p.b.g, .int .u8 p.b.b, .int .u8 p.fl], .int .u8 f, .bool true, .agg #[.int .i64 q.f.k, .int .u8 q.f.i, .int .u8 q.f.r, .int .u8 q.f.g, .int .u8 q.f.b, .int .i64 q.b.k, .int .u8 q.b.i, .int .u8 q.b.r, .int .u8 q.b.g, .int .u8 q.b.b, .int .u8 q.fl], .int .i64 no] w fun r w' => r = .returned (.bool true) ∧ Kept [] w w' := by
  have hP := hide (fun w1 => With_is p f hf q no h w1)
  clear h hf
  go_enter Tryd.func28, Tryd.ntmps28
  go_wp2_with fail
  obtain ⟨W0, hW0⟩ : ∃ x : World, x = (w.alloc (.cells #[.int .i64 p.f.k, .int .u8 p.f.i, .int .u8 p.f.r, .int .u8 p.f.g, .int .u8 p.f.b, .int .i64 p.b.k, .int .u8 p.b.i, .int .u8 p.b.r, .int .u8 p.b.g, .int .u8 p.b.b, .int .u8 p.fl] 27)).alloc (.cells #[.int .i64 q.f.k, .int .u8 q.f.i, .int .u8 q.f.r, .int .u8 q.f.g, .int .u8 q.f.b, .int .i64 q.b.k, .int .u8 q.b.i, .int .u8 q.b.r, .int .u8 q.b.g, .int .u8 q.b.b, .int .u8 q.fl] 27) := ⟨_, rfl⟩
  have hk0 : Kept [] w W0 := by rw [hW0]; exact ((Kept.refl [] w).alloc _).alloc _
  have hs1 : (w.alloc (.cells #[.int .i64 p.f.k, .int .u8 p.f.i, .int .u8 p.f.r, .int .u8 p.f.g, .int .u8 p.f.b, .int .i64 p.b.k, .int .u8 p.b.i, .int .u8 p.b.r, .int .u8 p.b.g, .int .u8 p.b.b, .int .u8 p.fl] 27)).heap.size = w.heap.size + 1 := by simp
  have hp0 : PenIn W0 (w.heap.size + 1) q := by rw [hW0, ← hs1]; exact PenIn.new _ q
  rw [← hW0]
  clear hW0 hs1
  refine (hP.out _).mono ?_
  rintro r w1 ⟨rfl, hk1⟩
  obtain ⟨z0, z1, z2, z3, z4, z5, z6, z7, z8, z9, z10⟩ := (hp0.kept hk1 (by simp)).at
  have hlt : w.heap.size + 1 < w1.heap.size := World.block_lt_of_cell? w1 _ z0
  go_wp2_with fail
  go_ret
  exact ⟨by simp, (hk0.trans hk1 (by simp)).alloc _⟩

theorem word_ok (i : Nat) (hi : i < 8) (w : World) (ht : WordsAt w) : Calls Tryd.prog 22 #[.int .u8 (flagI i), .string (wordB i), .int .i64 0] w fun r w' => r = .returned (.bool true) ∧ w' = w := by
  have hP := hide (fun w1 ht1 => Word_ok i hi w1 ht1)
  have hT := hide ht
  clear ht
  generalize wordB i = b at *
  generalize flagI i = f at *
  go_enter Tryd.func22, Tryd.ntmps22
  go_wp2_with fail
  refine (hP.out _ hT.out).mono ?_
  rintro r w1 ⟨rfl, rfl⟩
  go_wp2_with fail
  go_ret
  exact ⟨by simp, rfl⟩
theorem word_bad (f : Int) (hb : Byte f) (hf : oneI f = false) (w : World) : Calls Tryd.prog 22 #[.int .u8 f, .string ⟨#[]⟩, .int .i64 2] w fun r w' => r = .returned (.bool true) ∧ w' = w := by
  have hP := hide (fun w1 => Word_bad f hb hf w1)
  clear hb hf
  go_enter Tryd.func22, Tryd.ntmps22
  go_wp2_with fail
  refine (hP.out _).mono ?_
  rintro r w1 ⟨rfl, rfl⟩
  go_wp2_with fail
  go_ret
  exact ⟨by simp, rfl⟩
theorem byWord_is (s : ByteArray) (n : Nat) (hn : n ≤ 8) (hbefore : ∀ i, i < n → ((wordB i).toList == s.toList) = false) (hat : n < 8 → ((wordB n).toList == s.toList) = true) (r no : Int) (hr1 : n < 8 → r = flagI n ∧ no = 0) (hr2 : n = 8 → r = 0 ∧ no = 6) (w : World) (ht : WordsAt w) :
    Calls Tryd.prog 21 #[.string s, .int .u8 r, .int .i64 no] w fun e w' => e = .returned (.bool true) ∧ w' = w := by
  have hP := hide (ByWord_any s n hn hbefore hat r no hr1 hr2 w ht)
  clear hn hbefore hat hr1 hr2 ht
  go_enter Tryd.func21, Tryd.ntmps21
  go_wp2_with fail
  refine hP.out.mono ?_
  rintro e w1 ⟨rfl, rfl⟩
  go_wp2_with fail
  go_ret
  exact ⟨by simp, rfl⟩
end Go.Proofs.YtjhekofnecojkaaDoor
