/- All flags, the place of a flag, the reference's words; Has and With. -/
import Derived.Test.YtjhekofnecojkaaDoorPenWord
namespace Go.Proofs.YtjhekofnecojkaaDoor
open Go.RowKit
set_option linter.unusedVariables false

theorem elFlag : ElemT Tryd.prog 42 25 (.int .u8 0) 1 1 := ⟨Tryd.underlying42, by kernel_rfl, rfl, by omega, by omega⟩
def flagsL : List Int := [1, 2, 4, 8, 16, 32, 64, 128]
theorem flagsL_len : flagsL.length = 8 := rfl
theorem flagsL_at (k : Nat) (hk : k < 8) : flagsL[k]? = some (flagI k) := by
  have h : ∀ j : Fin 8, flagsL[j.val]? = some (flagI j.val) := by decide
  exact h ⟨k, hk⟩
theorem flagsL_snoc (k : Nat) (hk : k < 8) : flagsL.take (k + 1) = flagsL.take k ++ [flagI k] := by
  have h : ∀ j : Fin 8, flagsL.take (j.val + 1) = flagsL.take j.val ++ [flagI j.val] := by decide
  exact h ⟨k, hk⟩

set_option maxHeartbeats 1000000 in
theorem All_any (w : World) : Calls Tryd.prog 19 #[] w fun e w' => ∃ a c, e = .returned (.slice a 8 c) ∧ Own w' w.heap.size 25 a 8 c 1 (ints .u8 flagsL) ∧ Kept [] w w' := by
  have hF := hide flag_any
  go_enter Tryd.func19, Tryd.ntmps19
  go_wp2_with fail
  go_loopg [1, 3] 8 (fun kx s1 s3 wr => ∃ (k : Nat) (a : Option Addr) (c : Nat), s1 = .slice a k c ∧ s3 = .int .i64 k ∧ k ≤ 8 ∧ 8 - k ≤ kx ∧ Own wr w.heap.size 25 a k c 1 (ints .u8 (flagsL.take k)) ∧ Kept [] w wr)
  case atStart => exact ⟨0, none, 0, rfl, rfl, Nat.zero_le _, by omega, Own.nil _ _ _ _, Kept.refl _ _⟩
  case round =>
    obtain ⟨k, a, c, rfl, rfl, hk, hg, ho, hkk⟩ := hrel
    by_cases hlt : k < 8
    · have hk8 : (k : Int) < 8 := by omega
      have h1 := hide (hF.out k hlt)
      have hsn := hide (flagsL_snoc k hlt)
      have hge := hide ho.ge
      have hsz := hkk.size
      have ho' := hide ho
      clear ho
      generalize flagI k = f at *
      go_wp2_with fail
      refine (h1.out _).mono ?_
      rintro e w1 ⟨rfl, rfl⟩
      go_wp2_with (at_builtin; refine wpList_app ?_ rfl elFlag rfl rfl (ho'.out.alloc _) rfl (Rd.block (heap_alloc_new w1 _) rfl) ?o1 ?o2 ?o3; intro a' c' w2 ho2 hk2 hat2)
      have hk3 : Kept (blk a) w1 w2 := ((Kept.refl (blk a) w1).alloc _).trans hk2 (fun x hx => .inl hx)
      have ho3 : Own w2 w.heap.size 25 a' (k + 1) c' 1 (ints .u8 (flagsL.take (k + 1))) := by rw [hsn.out, ← ints_append]; exact ho2
      go_roundg (8 - (k + 1))
      case measure => omega
      case rel => exact ⟨k + 1, a', c', rfl, by push_cast; rfl, by omega, Nat.le_refl _, ho3, hkk.trans hk3 (fun x hx => .inr (hge.out x hx).1)⟩
      case o1 => simp [Value.oneCell']
      case o2 => simp; omega
      case o3 => simp; omega
    · obtain rfl : k = 8 := by omega
      have ho' := hide ho
      clear ho
      go_wp2_with fail
      go_ret
      exact ⟨a, c, rfl, ho'.out, hkk⟩

set_option maxHeartbeats 1000000 in
theorem Number_any (f : Int) (h : Byte f) (w : World) : Calls Tryd.prog 23 #[.int .u8 f] w fun e w' => ∃ v : Int, e = .returned (.int .i64 v) ∧ (oneI f = true ↔ 0 ≤ v) ∧ w' = w := by
  have hO := hide (one_iff f h)
  have hp : Hid (∀ k : Nat, k < 8 → 0 < flagI k ∧ flagI k ≤ 128 ∧ 2 * flagI k = flagI (k + 1)) := hide (by
    intro k hk
    have : ∀ j : Fin 8, 0 < flagI j.val ∧ flagI j.val ≤ 128 ∧ 2 * flagI j.val = flagI (j.val + 1) := by decide
    exact this ⟨k, hk⟩)
  obtain ⟨h0, h1⟩ := h
  go_enter Tryd.func23, Tryd.ntmps23
  go_wp2_with fail
  go_loopg [3, 4] 8 (fun kx s3 s4 wr => ∃ k : Nat, s3 = .int .i64 (flagI k) ∧ s4 = .int .i64 k ∧ k ≤ 8 ∧ 8 - k ≤ kx ∧ Hid (wr = w) ∧ Hid (∀ j, j < k → f ≠ flagI j))
  case atStart => exact ⟨0, rfl, rfl, Nat.zero_le _, by omega, hide rfl, hide (fun j hj => absurd hj (Nat.not_lt_zero _))⟩
  case round =>
    obtain ⟨k, rfl, rfl, hk, hg, hwr, hne⟩ := hrel
    by_cases hlt : k < 8
    · have hk8 : (k : Int) < 8 := by omega
      obtain ⟨p1, p2, p3⟩ := hp.out k hlt
      have P3 := hide p3
      clear p3
      by_cases hf : f = flagI k
      · have hq : (f == flagI k) = true := by simpa using hf
        have HK := hide (hO.out.2 ⟨k, hlt, hf⟩)
        clear hf hne hp P3
        generalize flagI k = g at *
        go_wp2_with fail
        go_ret
        exact ⟨_, rfl, ⟨fun _ => by omega, fun _ => HK.out⟩, hwr.out⟩
      · have hq : (f == flagI k) = false := by simpa using hf
        have hne2 := hide (show ∀ j, j < k + 1 → f ≠ flagI j from fun j hj e => by
          rcases Nat.lt_succ_iff_lt_or_eq.1 hj with h2 | h2
          · exact hne.out j h2 e
          · rw [h2] at e; exact hf e)
        clear hf hne
        have hp' := hp
        clear hp
        generalize hgk : flagI k = g at p1 p2 P3 hq ⊢
        clear hgk
        go_wp2_with fail
        go_roundg (8 - (k + 1))
        case measure => omega
        case rel => exact ⟨k + 1, by rw [← P3.out], by push_cast; rfl, by omega, Nat.le_refl _, hwr, hne2⟩
    · obtain rfl : k = 8 := by omega
      have hz : oneI f = false := by
        cases hc : oneI f
        · rfl
        · obtain ⟨i, hi, e⟩ := hO.out.1 hc
          exact absurd e (hne.out i hi)
      have HZ := hide hz
      clear hz
      generalize flagI 8 = g at *
      go_wp2_with fail
      go_ret
      exact ⟨_, rfl, ⟨fun hc => (by rw [HZ.out] at hc; cases hc), fun hc => absurd hc (by omega)⟩, hwr.out⟩

theorem Words_any (w : World) : Calls Tryd.prog 20 #[] w fun e w' => ∃ b, e = .returned (.slice (some ⟨b, 0, none⟩) 8 8) ∧ w.heap.size ≤ b ∧ (∀ i, i < 8 → w'.cell? ⟨b, i, none⟩ = some (.string (wordB i))) ∧ Kept [] w w' := by
  go_enter Tryd.func20, Tryd.ntmps20
  go_wp2_with fail
  go_ret
  refine ⟨_, rfl, Nat.le_refl _, fun i hi => ?_, (Kept.refl _ _).alloc _⟩
  have hc : i = 0 ∨ i = 1 ∨ i = 2 ∨ i = 3 ∨ i = 4 ∨ i = 5 ∨ i = 6 ∨ i = 7 := by omega
  rw [cell_of_row _ _ i _ _ _ (heap_alloc_new w _)]
  rcases hc with rfl | rfl | rfl | rfl | rfl | rfl | rfl | rfl <;> rfl

/-- Whether a pen has a flag, if it is just one. -/
def hasI (fl f : Int) : Bool := oneI f && (bits .and .u8 fl f != 0)
set_option maxHeartbeats 1000000 in
theorem Has_any (p : Pn) (f : Int) (h : Byte f) (w : World) : Calls Tryd.prog 27 #[.agg #[.int .i64 p.f.k, .int .u8 p.f.i, .int .u8 p.f.r, .int .u8 p.f.g, .int .u8 p.f.b, .int .i64 p.b.k, .int .u8 p.b.i, .int .u8 p.b.r, .int .u8 p.b.g, .int .u8 p.b.b, .int .u8 p.fl], .int .u8 f] w fun e w' => e = .returned (.bool (hasI p.fl f)) ∧ Kept [] w w' := by
  have hS := hide (fun w1 => single_any f w1 h)
  have hR := hide (show hasI p.fl f = (oneI f && (bits .and .u8 p.fl f != 0)) from rfl)
  generalize hasI p.fl f = R at *
  generalize oneI f = o at *
  clear h
  go_enter Tryd.func27, Tryd.ntmps27
  cases o
  all_goals
    go_wp2_with fail
    refine (hS.out _).mono ?_
    rintro e w1 ⟨rfl, rfl⟩
    go_wp2_with fail
  all_goals
    go_ret
    exact ⟨ret_bool (by rw [hR.out]; simp), (Kept.refl _ _).alloc _⟩

/-- A pen with one more flag. -/
def withI (p : Pn) (f : Int) : Pn := ⟨p.f, p.b, bits .or .u8 p.fl f⟩
/-- What With returns that puts a flag on. -/
def withE (p : Pn) (f : Int) : Pn × Int := if penOk p ∧ oneI f = true then (withI p f, 0) else (zeroP, 2)
set_option maxHeartbeats 1000000 in
theorem With_is (p : Pn) (f : Int) (h : Byte f) (q : Pn) (no : Int) (hq : withE p f = (q, no)) (w : World) :
    Calls Tryd.prog 26 #[.agg #[.int .i64 p.f.k, .int .u8 p.f.i, .int .u8 p.f.r, .int .u8 p.f.g, .int .u8 p.f.b, .int .i64 p.b.k, .int .u8 p.b.i, .int .u8 p.b.r, .int .u8 p.b.g, .int .u8 p.b.b, .int .u8 p.fl], .int .u8 f, .bool true] w fun e w' => e = .returned (.tuple #[.agg #[.int .i64 q.f.k, .int .u8 q.f.i, .int .u8 q.f.r, .int .u8 q.f.g, .int .u8 q.f.b, .int .i64 q.b.k, .int .u8 q.b.i, .int .u8 q.b.r, .int .u8 q.b.g, .int .u8 q.b.b, .int .u8 q.fl], .int .i64 no]) ∧ Kept [] w w' := by
  obtain ⟨v, hv⟩ : ∃ x, decide (penOk p) = x := ⟨_, rfl⟩
  have hV := hide (fun w1 => valid_is p v hv w1)
  have hS := hide (fun w1 => single_any f w1 h)
  have hE : Hid ((if v = true ∧ oneI f = true then (withI p f, (0 : Int)) else (zeroP, 2)) = (q, no)) := hide (by rw [← hq, ← hv]; unfold withE; simp only [decide_eq_true_eq])
  clear hv hq h
  generalize oneI f = o at *
  go_enter Tryd.func26, Tryd.ntmps26
  go_wp2_with fail
  obtain ⟨W0, hW0⟩ : ∃ x : World, x = (w.alloc (.cells #[.int .i64 p.f.k, .int .u8 p.f.i, .int .u8 p.f.r, .int .u8 p.f.g, .int .u8 p.f.b, .int .i64 p.b.k, .int .u8 p.b.i, .int .u8 p.b.r, .int .u8 p.b.g, .int .u8 p.b.b, .int .u8 p.fl] 27)).alloc (.cells #[.int .i64 zeroP.f.k, .int .u8 zeroP.f.i, .int .u8 zeroP.f.r, .int .u8 zeroP.f.g, .int .u8 zeroP.f.b, .int .i64 zeroP.b.k, .int .u8 zeroP.b.i, .int .u8 zeroP.b.r, .int .u8 zeroP.b.g, .int .u8 zeroP.b.b, .int .u8 zeroP.fl] 27) := ⟨_, rfl⟩
  have hk0 : Kept [] w W0 := by rw [hW0]; exact ((Kept.refl [] w).alloc _).alloc _
  have hs1 : (w.alloc (.cells #[.int .i64 p.f.k, .int .u8 p.f.i, .int .u8 p.f.r, .int .u8 p.f.g, .int .u8 p.f.b, .int .i64 p.b.k, .int .u8 p.b.i, .int .u8 p.b.r, .int .u8 p.b.g, .int .u8 p.b.b, .int .u8 p.fl] 27)).heap.size = w.heap.size + 1 := by simp
  have hp0 : Hid (PenIn W0 w.heap.size p) := hide (by rw [hW0]; exact (PenIn.new w p).kept ((Kept.refl [] _).alloc _) (by simp))
  have hr0 : Hid (PenIn W0 (w.heap.size + 1) zeroP) := hide (by rw [hW0, ← hs1]; exact PenIn.new _ zeroP)
  change Calls _ _ _ ((w.alloc (.cells #[.int .i64 p.f.k, .int .u8 p.f.i, .int .u8 p.f.r, .int .u8 p.f.g, .int .u8 p.f.b, .int .i64 p.b.k, .int .u8 p.b.i, .int .u8 p.b.r, .int .u8 p.b.g, .int .u8 p.b.b, .int .u8 p.fl] 27)).alloc (.cells #[.int .i64 zeroP.f.k, .int .u8 zeroP.f.i, .int .u8 zeroP.f.r, .int .u8 zeroP.f.g, .int .u8 zeroP.f.b, .int .i64 zeroP.b.k, .int .u8 zeroP.b.i, .int .u8 zeroP.b.r, .int .u8 zeroP.b.g, .int .u8 zeroP.b.b, .int .u8 zeroP.fl] 27)) _
  rw [← hW0]
  clear hW0 hs1
  refine (hV.out _).mono ?_
  rintro e w1 ⟨rfl, hk1⟩
  have hp1 := hp0.out.kept hk1 (by simp)
  have hr1 := hr0.out.kept hk1 (by simp)
  have hK1 := hide (hk0.trans hk1 (by simp))
  have hlt : w.heap.size + 1 < w1.heap.size := by
    rcases Nat.lt_or_ge (w.heap.size + 1) w1.heap.size with h1 | h1
    · exact h1
    · have := hr1
      unfold PenIn at this
      rw [Array.getElem?_eq_none h1] at this
      cases this
  have HP := hide hp1
  have HR := hide hr1
  obtain ⟨q0, q1, q2, q3, q4, q5, q6, q7, q8, q9, q10⟩ := hp1.at
  obtain ⟨g0, g1, g2, g3, g4, g5, g6, g7, g8, g9, g10⟩ := hp1.froz
  obtain ⟨r0, r1, r2, r3, r4, r5, r6, r7, r8, r9, r10⟩ := hr1.at
  obtain ⟨f0, f1, f2, f3, f4, f5, f6, f7, f8, f9, f10⟩ := hr1.froz
  clear hp0 hr0 hp1 hr1 hk0 hk1 g0 g1 g2 g3 g4 g5 g6 g7 g8 g9
  cases v
  · have hE2 := hE.out
    rw [if_neg (by simp)] at hE2
    cases hE2
    go_wp2_with fail
    have hn : PenAt (((((((((((w1.setCell ⟨(w.heap.size+1), 0, none⟩ (.int .i64 0)).setCell ⟨(w.heap.size+1), 1, none⟩ (.int .u8 0)).setCell ⟨(w.heap.size+1), 2, none⟩ (.int .u8 0)).setCell ⟨(w.heap.size+1), 3, none⟩ (.int .u8 0)).setCell ⟨(w.heap.size+1), 4, none⟩ (.int .u8 0)).setCell ⟨(w.heap.size+1), 5, none⟩ (.int .i64 0)).setCell ⟨(w.heap.size+1), 6, none⟩ (.int .u8 0)).setCell ⟨(w.heap.size+1), 7, none⟩ (.int .u8 0)).setCell ⟨(w.heap.size+1), 8, none⟩ (.int .u8 0)).setCell ⟨(w.heap.size+1), 9, none⟩ (.int .u8 0)).setCell ⟨(w.heap.size+1), 10, none⟩ (.int .u8 0)) (w.heap.size + 1) zeroP := (HR.out.set zeroP).at
    obtain ⟨n0, n1, n2, n3, n4, n5, n6, n7, n8, n9, n10⟩ := hn
    refine bodyPost_ret (v := .tuple #[.agg #[.int .i64 zeroP.f.k, .int .u8 zeroP.f.i, .int .u8 zeroP.f.r, .int .u8 zeroP.f.g, .int .u8 zeroP.f.b, .int .i64 zeroP.b.k, .int .u8 zeroP.b.i, .int .u8 zeroP.b.r, .int .u8 zeroP.b.g, .int .u8 zeroP.b.b, .int .u8 zeroP.fl], .int .i64 2]) (by simp [results, Tryd.results26, go_sem, n0, n1, n2, n3, n4, n5, n6, n7, n8, n9, n10]) rfl ?_
    exact ⟨rfl, hK1.out.setPen (.inr (by omega)) zeroP⟩
  cases o
  · have hE2 := hE.out
    rw [if_neg (by simp)] at hE2
    cases hE2
    go_wp2_with fail
    refine (hS.out _).mono ?_
    rintro e w2 ⟨rfl, rfl⟩
    go_wp2_with fail
    have hn : PenAt (((((((((((w2.setCell ⟨(w.heap.size+1), 0, none⟩ (.int .i64 0)).setCell ⟨(w.heap.size+1), 1, none⟩ (.int .u8 0)).setCell ⟨(w.heap.size+1), 2, none⟩ (.int .u8 0)).setCell ⟨(w.heap.size+1), 3, none⟩ (.int .u8 0)).setCell ⟨(w.heap.size+1), 4, none⟩ (.int .u8 0)).setCell ⟨(w.heap.size+1), 5, none⟩ (.int .i64 0)).setCell ⟨(w.heap.size+1), 6, none⟩ (.int .u8 0)).setCell ⟨(w.heap.size+1), 7, none⟩ (.int .u8 0)).setCell ⟨(w.heap.size+1), 8, none⟩ (.int .u8 0)).setCell ⟨(w.heap.size+1), 9, none⟩ (.int .u8 0)).setCell ⟨(w.heap.size+1), 10, none⟩ (.int .u8 0)) (w.heap.size + 1) zeroP := (HR.out.set zeroP).at
    obtain ⟨n0, n1, n2, n3, n4, n5, n6, n7, n8, n9, n10⟩ := hn
    refine bodyPost_ret (v := .tuple #[.agg #[.int .i64 zeroP.f.k, .int .u8 zeroP.f.i, .int .u8 zeroP.f.r, .int .u8 zeroP.f.g, .int .u8 zeroP.f.b, .int .i64 zeroP.b.k, .int .u8 zeroP.b.i, .int .u8 zeroP.b.r, .int .u8 zeroP.b.g, .int .u8 zeroP.b.b, .int .u8 zeroP.fl], .int .i64 2]) (by simp [results, Tryd.results26, go_sem, n0, n1, n2, n3, n4, n5, n6, n7, n8, n9, n10]) rfl ?_
    exact ⟨rfl, hK1.out.setPen (.inr (by omega)) zeroP⟩
  · have hE2 := hE.out
    rw [if_pos ⟨rfl, rfl⟩] at hE2
    cases hE2
    go_wp2_with fail
    refine (hS.out _).mono ?_
    rintro e w2 ⟨rfl, rfl⟩
    go_wp2_with fail
    generalize hx : bits .or .u8 p.fl f = x
    have hw : withI p f = ⟨p.f, p.b, x⟩ := by unfold withI; rw [hx]
    have HR2 : PenIn (w2.setCell ⟨w.heap.size, 10, none⟩ (.int .u8 x)) (w.heap.size + 1) zeroP := HR.out.kept ((Kept.refl [w.heap.size] w2).setCell (.inl (by simp)) _) (by simp)
    have hK2 : Kept [] w (w2.setCell ⟨w.heap.size, 10, none⟩ (.int .u8 x)) := hK1.out.setCell (.inr (Nat.le_refl _)) _
    generalize w2.setCell ⟨w.heap.size, 10, none⟩ (.int .u8 x) = W2 at HR2 hK2 ⊢
    have hn : PenAt (((((((((((W2.setCell ⟨(w.heap.size+1), 0, none⟩ (.int .i64 p.f.k)).setCell ⟨(w.heap.size+1), 1, none⟩ (.int .u8 p.f.i)).setCell ⟨(w.heap.size+1), 2, none⟩ (.int .u8 p.f.r)).setCell ⟨(w.heap.size+1), 3, none⟩ (.int .u8 p.f.g)).setCell ⟨(w.heap.size+1), 4, none⟩ (.int .u8 p.f.b)).setCell ⟨(w.heap.size+1), 5, none⟩ (.int .i64 p.b.k)).setCell ⟨(w.heap.size+1), 6, none⟩ (.int .u8 p.b.i)).setCell ⟨(w.heap.size+1), 7, none⟩ (.int .u8 p.b.r)).setCell ⟨(w.heap.size+1), 8, none⟩ (.int .u8 p.b.g)).setCell ⟨(w.heap.size+1), 9, none⟩ (.int .u8 p.b.b)).setCell ⟨(w.heap.size+1), 10, none⟩ (.int .u8 (x))) (w.heap.size + 1) ⟨p.f, p.b, x⟩ := (HR2.set ⟨p.f, p.b, x⟩).at
    obtain ⟨n0, n1, n2, n3, n4, n5, n6, n7, n8, n9, n10⟩ := hn
    rw [hw]
    refine bodyPost_ret (v := .tuple #[.agg #[.int .i64 p.f.k, .int .u8 p.f.i, .int .u8 p.f.r, .int .u8 p.f.g, .int .u8 p.f.b, .int .i64 p.b.k, .int .u8 p.b.i, .int .u8 p.b.r, .int .u8 p.b.g, .int .u8 p.b.b, .int .u8 x], .int .i64 0]) (by simp [results, Tryd.results26, go_sem, n0, n1, n2, n3, n4, n5, n6, n7, n8, n9, n10]) rfl ?_
    exact ⟨rfl, hK2.setPen (.inr (by omega)) ⟨p.f, p.b, x⟩⟩
end Go.Proofs.YtjhekofnecojkaaDoor
