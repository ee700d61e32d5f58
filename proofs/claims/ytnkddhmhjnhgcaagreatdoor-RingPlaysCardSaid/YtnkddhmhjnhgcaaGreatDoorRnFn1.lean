/- The program's small functions of layer 8: orZero First Next Len Most Pages made validLimit missing New. -/
import Derived.Test.YtnkddhmhjnhgcaaGreatDoorRnMem
namespace Go.Proofs.YtnkddhmhjnhgcaaGreatDoor
open Go.RowKit
set_option linter.unusedVariables false
set_option maxRecDepth 100000

/-- What a pointer to a ring leads to; a nil one to nothing. -/
def PtrR (w : World) (q : Option Addr) (m p f x : Int) (a : Option Addr) (n c : Nat) : Prop := (q = none ∧ m = 0 ∧ p = 0 ∧ f = 0 ∧ x = 0 ∧ a = none ∧ n = 0 ∧ c = 0) ∨ ∃ b, q = some ⟨b, 0, none⟩ ∧ RbIn w b m p f x a n c
theorem PtrR.kept {w w' : World} {q : Option Addr} {m p f x : Int} {a : Option Addr} {n c : Nat} (h : PtrR w q m p f x a n c) (hk : Kept [] w w') : PtrR w' q m p f x a n c := h.imp id fun ⟨b, h1, h2⟩ => ⟨b, h1, h2.kept hk (by simp)⟩
set_option maxHeartbeats 1000000 in
theorem orZero8_any (q : Option Addr) (m p f x : Int) (a : Option Addr) (n c : Nat) (w : World) (h : PtrR w q m p f x a n c) :
    Calls Tryz.prog 41 #[.pointer q] w fun e w' => e = .returned (.agg #[.int .i64 m, .int .i64 p, .int .i64 f, .int .i64 x, .slice a n c]) ∧ Kept [] w w' := by
  obtain ⟨W0, hW0⟩ : ∃ z : World, z = w.alloc (.cells #[.int .i64 0, .int .i64 0, .int .i64 0, .int .i64 0, .slice none 0 0] 58) := ⟨_, rfl⟩
  have hk0 : Kept [] w W0 := by rw [hW0]; exact (Kept.refl [] w).alloc _
  have hz0 : Hid (RbIn W0 w.heap.size 0 0 0 0 none 0 0) := hide (by rw [hW0]; exact RbIn.new w 0 0 0 0 none 0 0)
  rcases h with ⟨rfl, rfl, rfl, rfl, rfl, rfl, rfl, rfl⟩ | ⟨b, rfl, hb⟩
  · go_enter Tryz.func41, Tryz.ntmps41
    go_upto_region 1 with fail
    rw [← hW0]
    clear hW0
    go_wp2_with (refine wpList_store_rb rfl rfl rfl w.heap.size rfl hz0.out 0 0 0 0 none 0 0 rfl ?_; intro w7 hb7 hk7)
    refine bodyPost_ret (results_rb rfl rfl hb7) rfl ?_
    exact ⟨rfl, hk0.trans hk7 (by simp)⟩
  · have hb0 := hide (hb.kept hk0 (by simp))
    clear hb
    have hpp : ∀ w1, (binOp .eql 25 (.pointer (some ⟨b, 0, none⟩)) (.pointer none)).run Tryz.prog w1 = .ok (.bool false) w1 := fun w1 => by kernel_rfl
    go_enter Tryz.func41, Tryz.ntmps41
    go_upto_region 1 with fail
    rw [← hW0]
    clear hW0
    obtain ⟨q0, q1, q2, q3, q4⟩ := hb0.out.at
    go_wp2_with (refine wpList_store_rb rfl rfl rfl w.heap.size rfl hz0.out m p f x a n c rfl ?_; intro w7 hb7 hk7)
    refine bodyPost_ret (results_rb rfl rfl hb7) rfl ?_
    exact ⟨rfl, hk0.trans hk7 (by simp)⟩
set_option maxHeartbeats 1000000 in
theorem First8_any (q : Option Addr) (m p f x : Int) (a : Option Addr) (n c : Nat) (w : World) (h : PtrR w q m p f x a n c) :
    Calls Tryz.prog 17 #[.pointer q] w fun e w' => e = .returned (.int .i64 f) ∧ Kept [] w w' := by
  have hO := hide (orZero8_any q m p f x a n c w h)
  clear h
  have hf : ∀ w1, (Instr.field 58 (.agg #[.int .i64 m, .int .i64 p, .int .i64 f, .int .i64 x, .slice a n c]) 2).run Tryz.prog w1 = .ok (.int .i64 f) w1 := fun w1 => by kernel_rfl
  go_enter Tryz.func17, Tryz.ntmps17
  go_wp2_with fail
  refine hO.out.mono ?_
  rintro e w1 ⟨rfl, hk⟩
  go_wp2_with fail
  go_ret
  exact ⟨rfl, hk⟩
set_option maxHeartbeats 1000000 in
theorem Next8_any (q : Option Addr) (m p f x : Int) (a : Option Addr) (n c : Nat) (w : World) (h : PtrR w q m p f x a n c) :
    Calls Tryz.prog 18 #[.pointer q] w fun e w' => e = .returned (.int .i64 x) ∧ Kept [] w w' := by
  have hO := hide (orZero8_any q m p f x a n c w h)
  clear h
  have hf : ∀ w1, (Instr.field 58 (.agg #[.int .i64 m, .int .i64 p, .int .i64 f, .int .i64 x, .slice a n c]) 3).run Tryz.prog w1 = .ok (.int .i64 x) w1 := fun w1 => by kernel_rfl
  go_enter Tryz.func18, Tryz.ntmps18
  go_wp2_with fail
  refine hO.out.mono ?_
  rintro e w1 ⟨rfl, hk⟩
  go_wp2_with fail
  go_ret
  exact ⟨rfl, hk⟩
set_option maxHeartbeats 1000000 in
theorem Most8_any (q : Option Addr) (m p f x : Int) (a : Option Addr) (n c : Nat) (w : World) (h : PtrR w q m p f x a n c) :
    Calls Tryz.prog 35 #[.pointer q] w fun e w' => e = .returned (.int .i64 m) ∧ Kept [] w w' := by
  have hO := hide (orZero8_any q m p f x a n c w h)
  clear h
  have hf : ∀ w1, (Instr.field 58 (.agg #[.int .i64 m, .int .i64 p, .int .i64 f, .int .i64 x, .slice a n c]) 0).run Tryz.prog w1 = .ok (.int .i64 m) w1 := fun w1 => by kernel_rfl
  go_enter Tryz.func35, Tryz.ntmps35
  go_wp2_with fail
  refine hO.out.mono ?_
  rintro e w1 ⟨rfl, hk⟩
  go_wp2_with fail
  go_ret
  exact ⟨rfl, hk⟩
set_option maxHeartbeats 1000000 in
theorem Pages8_any (q : Option Addr) (m p f x : Int) (a : Option Addr) (n c : Nat) (w : World) (h : PtrR w q m p f x a n c) :
    Calls Tryz.prog 16 #[.pointer q] w fun e w' => e = .returned (.int .i64 n) ∧ Kept [] w w' := by
  have hO := hide (orZero8_any q m p f x a n c w h)
  clear h
  have hf : ∀ w1, (Instr.field 58 (.agg #[.int .i64 m, .int .i64 p, .int .i64 f, .int .i64 x, .slice a n c]) 4).run Tryz.prog w1 = .ok (.slice a n c) w1 := fun w1 => by kernel_rfl
  go_enter Tryz.func16, Tryz.ntmps16
  go_wp2_with fail
  refine hO.out.mono ?_
  rintro e w1 ⟨rfl, hk⟩
  go_wp2_with fail
  go_ret
  exact ⟨rfl, hk⟩
set_option maxHeartbeats 1000000 in
theorem Len8_any (q : Option Addr) (m p f x : Int) (a : Option Addr) (n c : Nat) (w : World) (h : PtrR w q m p f x a n c) (z : Int) (hz : IntKind.i64.wrap (x - f) = z) :
    Calls Tryz.prog 23 #[.pointer q] w fun e w' => e = .returned (.int .i64 z) ∧ Kept [] w w' := by
  have h1 : IntKind.i64.wrap (x - f) = z := hz
  have hC := hide (Next8_any q m p f x a n c w h)
  have hG := hide (fun w1 (hk : Kept [] w w1) => First8_any q m p f x a n c w1 (h.kept hk))
  clear h
  go_enter Tryz.func23, Tryz.ntmps23
  go_wp2_with fail
  refine hC.out.mono ?_
  rintro e w1 ⟨rfl, hk1⟩
  go_wp2_with fail
  refine (hG.out w1 hk1).mono ?_
  rintro e w2 ⟨rfl, hj2⟩
  have hk2 := hk1.trans hj2 (by simp)
  go_wp2_with fail
  go_ret
  exact ⟨rfl, hk2⟩
set_option maxHeartbeats 1000000 in
theorem made8_any (q : Option Addr) (m p f x : Int) (a : Option Addr) (n c : Nat) (w : World) (h : PtrR w q m p f x a n c) (v : Bool) (hv : decide (0 < p) = v) :
    Calls Tryz.prog 43 #[.pointer q] w fun e w' => e = .returned (.bool v) ∧ Kept [] w w' := by
  have hO := hide (orZero8_any q m p f x a n c w h)
  have hf : ∀ w1, (Instr.field 58 (.agg #[.int .i64 m, .int .i64 p, .int .i64 f, .int .i64 x, .slice a n c]) 1).run Tryz.prog w1 = .ok (.int .i64 p) w1 := fun w1 => by kernel_rfl
  clear h
  have hv' := hide hv
  go_enter Tryz.func43, Tryz.ntmps43
  go_wp2_with fail
  refine hO.out.mono ?_
  rintro e w1 ⟨rfl, hk1⟩
  cases v
  · have h0 : ¬ (0 < p) := by simpa using hv
    clear hv
    go_wp2_with fail
    go_ret
    exact ⟨ret_bool (by simp; try omega), hk1⟩
  · have h0 : 0 < p := by simpa using hv
    clear hv
    go_wp2_with fail
    go_ret
    exact ⟨ret_bool (by simp; try omega), hk1⟩
set_option maxHeartbeats 1000000 in
theorem validLimit8_any (k : Int) (w : World) (v : Bool) (hv : decide (0 ≤ k ∧ k ≤ 1048576) = v) :
    Calls Tryz.prog 24 #[.int .i64 k] w fun e w' => e = .returned (.bool v) ∧ Kept [] w w' := by
  by_cases h0 : 0 ≤ k
  · by_cases h1 : k ≤ 1048576
    · go_enter Tryz.func24, Tryz.ntmps24
      go_wp2_with fail
      go_ret
      exact ⟨ret_bool (by rw [← hv]; simp [h0, h1]), Kept.refl _ _⟩
    · go_enter Tryz.func24, Tryz.ntmps24
      go_wp2_with fail
      go_ret
      exact ⟨ret_bool (by rw [← hv]; simp [h0, h1]), Kept.refl _ _⟩
  · have h1 : k < 0 := by omega
    go_enter Tryz.func24, Tryz.ntmps24
    go_wp2_with fail
    go_ret
    exact ⟨ret_bool (by rw [← hv]; simp; try omega), Kept.refl _ _⟩
set_option maxHeartbeats 1000000 in
theorem missing8_any (b : Nat) (m p : Int) (F X : Nat) (a : Option Addr) (n c : Nat) (k : Int) (w : World) (h : RbIn w b m p F X a n c) (z : Int) (hz : (if k < 0 ∨ (X : Int) ≤ k then 3 else if k < (F : Int) then 14 else 0 : Int) = z) :
    Calls Tryz.prog 46 #[.pointer (some ⟨b, 0, none⟩), .int .i64 k] w fun e w' => e = .returned (.int .i64 z) ∧ Kept [] w w' := by
  obtain ⟨q0, q1, q2, q3, q4⟩ := h.at
  clear h
  by_cases h0 : k < 0
  · rw [if_pos (.inl h0)] at hz
    subst hz
    go_enter Tryz.func46, Tryz.ntmps46
    go_wp2_with fail
    go_ret
    exact ⟨rfl, Kept.refl _ _⟩
  · by_cases h1 : k ≥ (X : Int)
    · rw [if_pos (.inr h1)] at hz
      subst hz
      go_enter Tryz.func46, Tryz.ntmps46
      go_wp2_with fail
      go_ret
      exact ⟨rfl, Kept.refl _ _⟩
    · rw [if_neg (by omega)] at hz
      by_cases h2 : k < (F : Int)
      · rw [if_pos h2] at hz
        subst hz
        go_enter Tryz.func46, Tryz.ntmps46
        go_wp2_with fail
        go_ret
        exact ⟨rfl, Kept.refl _ _⟩
      · rw [if_neg h2] at hz
        subst hz
        go_enter Tryz.func46, Tryz.ntmps46
        go_wp2_with fail
        go_ret
        exact ⟨rfl, Kept.refl _ _⟩
def New8Ret (m k : Int) (w : World) (e : Ending) (w' : World) : Prop := Kept [] w w' ∧ ((0 ≤ m ∧ m ≤ 1048576 ∧ 1 ≤ k ∧ k ≤ 1024) → ∃ b B, e = .returned (.tuple #[.pointer (some ⟨b, 0, none⟩), .int .i64 0]) ∧ RN w' b ⟨m.toNat, k.toNat, 0, [], []⟩ B ∧ ∀ y ∈ B, w.heap.size ≤ y) ∧ (¬ (0 ≤ m ∧ m ≤ 1048576 ∧ 1 ≤ k ∧ k ≤ 1024) → e = .returned (.tuple #[.pointer none, .int .i64 2]))
theorem RN.start {w : World} {b m k : Nat} (hm : m ≤ 1048576) (h1 : 1 ≤ k) (h2 : k ≤ 1024) (f : Nat) (h : RbIn w b m k f f none 0 0) : RN w b ⟨m, k, f, [], []⟩ [b] :=
  ⟨none, 0, 0, [], ⟨⟨h, Mid.nil w 1, fun p hp => (by cases hp), fun p hp => (by cases hp), by simp [blkC], by simp [blkP], by simp [blkC], List.Pairwise.nil⟩, rfl, rfl, ⟨h1, h2, hm, rfl, trivial, fun x hx => (by cases hx)⟩⟩, by simp [rnB, blkC, blkP], Nat.zero_le _⟩
set_option maxHeartbeats 1000000 in
theorem New8_any (m k : Int) (w : World) : Calls Tryz.prog 6 #[.int .i64 m, .int .i64 k] w (New8Ret m k w) := by
  have bad : ∀ w1, ¬ (0 ≤ m ∧ m ≤ 1048576 ∧ 1 ≤ k ∧ k ≤ 1024) → Kept [] w w1 → New8Ret m k w (.returned (.tuple #[.pointer none, .int .i64 2])) w1 := fun w1 h hk => ⟨hk, fun h2 => absurd h2 h, fun _ => rfl⟩
  have bad := hide bad
  by_cases h0 : 0 ≤ m ∧ m ≤ 1048576
  · have hV := hide (validLimit8_any m w true (by simpa using h0))
    by_cases h1 : k < 1
    · go_enter Tryz.func6, Tryz.ntmps6
      go_wp2_with fail
      refine hV.out.mono ?_
      rintro e w1 ⟨rfl, hk⟩
      go_wp2_with fail
      refine bodyPost_ret (v := .tuple #[.pointer none, .int .i64 2]) (by simp [results, Tryz.results6, go_sem]) rfl ?_
      exact bad.out _ (by omega) hk
    · by_cases h2 : k > 1024
      · go_enter Tryz.func6, Tryz.ntmps6
        go_wp2_with fail
        refine hV.out.mono ?_
        rintro e w1 ⟨rfl, hk⟩
        go_wp2_with fail
        refine bodyPost_ret (v := .tuple #[.pointer none, .int .i64 2]) (by simp [results, Tryz.results6, go_sem]) rfl ?_
        exact bad.out _ (by omega) hk
      · obtain ⟨M, rfl⟩ : ∃ M : Nat, m = M := ⟨m.toNat, by omega⟩
        obtain ⟨K, rfl⟩ : ∃ K : Nat, k = K := ⟨k.toNat, by omega⟩
        have hM := hide h0
        clear h0
        go_enter Tryz.func6, Tryz.ntmps6
        go_wp2_with fail
        refine hV.out.mono ?_
        rintro e w1 ⟨rfl, hk⟩
        have hb := RbIn.new w1 M K 0 0 none 0 0
        have hk2 := hk.trans ((Kept.refl [] w1).alloc (.cells #[.int .i64 M, .int .i64 K, .int .i64 0, .int .i64 0, .slice none 0 0] 58)) (by simp)
        go_wp2_with fail
        refine bodyPost_ret (v := .tuple #[.pointer (some ⟨w1.heap.size, 0, none⟩), .int .i64 0]) (by simp [results, Tryz.results6, go_sem]) rfl ?_
        have hM := hM.out
        have hs := hk.size
        exact ⟨hk2, fun _ => ⟨w1.heap.size, [w1.heap.size], rfl, RN.start (by omega) (by omega) (by omega) 0 hb, by simpa using hs⟩, fun h => absurd ⟨by omega, by omega, by omega, by omega⟩ h⟩
  · have hV := hide (validLimit8_any m w false (by simpa using h0))
    have h0 := hide h0
    go_enter Tryz.func6, Tryz.ntmps6
    go_wp2_with fail
    refine hV.out.mono ?_
    rintro e w1 ⟨rfl, hk⟩
    go_wp2_with fail
    refine bodyPost_ret (v := .tuple #[.pointer none, .int .i64 2]) (by simp [results, Tryz.results6, go_sem]) rfl ?_
    exact bad.out _ (fun h => h0.out ⟨h.1, h.2.1⟩) hk
section
variable {w : World} {b : Nat} {r : Rg} {a : Option Addr} {n c : Nat} {ps : List PgX}
theorem RnIs.ptr (h : RnIs w b r a n c ps) : PtrR w (some ⟨b, 0, none⟩) r.limit r.places r.first r.next a n c := .inr ⟨b, rfl, h.box⟩
theorem made_rn (h : RnIs w b r a n c ps) : Calls Tryz.prog 43 #[.pointer (some ⟨b, 0, none⟩)] w fun e w' => e = .returned (.bool true) ∧ Kept [] w w' := made8_any _ _ _ _ _ _ _ _ _ h.ptr true (by simp; have := h.wf.p1; omega)
theorem missing_rn (h : RnIs w b r a n c ps) (k : Int) : Calls Tryz.prog 46 #[.pointer (some ⟨b, 0, none⟩), .int .i64 k] w fun e w' => e = .returned (.int .i64 (atG r k)) ∧ Kept [] w w' := missing8_any b _ _ r.first r.next _ _ _ k w h.box _ rfl
end
end Go.Proofs.YtnkddhmhjnhgcaaGreatDoor
