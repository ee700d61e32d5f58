/- The program's iterator over pages, each, of layer 8. -/
import Derived.Test.YtnkddhmhjnhgcaaGreatDoorRnPop
import Derived.Test.YtnkddhmhjnhgcaaGreatDoorRound
namespace Go.Proofs.YtnkddhmhjnhgcaaGreatDoor
open Go.RowKit
set_option linter.unusedVariables false
set_option maxRecDepth 100000
attribute [local go_sem] Oper.semAt_some

/-- The pages with the numbers of their first lines. -/
def numP : Nat → List PgX → List (Nat × PgX)
  | _, [] => []
  | f, p :: ps => (f, p) :: numP (f + p.s.ls.length) ps
def encP (x : Nat × PgX) : Array Value := #[.int .i64 (x.1 : Nat), .pointer (some ⟨x.2.b, 0, none⟩)]
theorem numP_len : ∀ (f : Nat) (ps : List PgX), (numP f ps).length = ps.length
  | _, [] => rfl
  | f, p :: ps => by simp [numP, numP_len]
theorem numP_get : ∀ (f : Nat) (ps : List PgX) (k : Nat) (p : PgX), ps[k]? = some p → (numP f ps)[k]? = some (f + (lnsS (shs (ps.take k))).length, p)
  | _, [], k, p, h => by simp at h
  | f, q :: ps, 0, p, h => by simp at h; subst h; simp [numP, shs, lnsS]
  | f, q :: ps, k + 1, p, h => by
    have := numP_get (f + q.s.ls.length) ps k p (by simpa using h)
    simp only [numP, List.getElem?_cons_succ, this, List.take_succ_cons]
    congr 2
    simp only [shs, List.map_cons, lnsS_cons, List.length_append]
    omega
theorem lnsS_take_succ (ps : List PgX) (k : Nat) (p : PgX) (h : ps[k]? = some p) : (lnsS (shs (ps.take (k + 1)))).length = (lnsS (shs (ps.take k))).length + p.s.ls.length := by
  rw [List.take_add_one, h]
  simp [shs, lnsS, Option.toList]
theorem lnsS_take_le (ps : List PgX) (k : Nat) : (lnsS (shs (ps.take k))).length ≤ (lnsS (shs ps)).length := by
  have e : shs ps = shs (ps.take k) ++ shs (ps.drop k) := by unfold shs; rw [← List.map_append, List.take_append_drop]
  rw [e, lnsS_app, List.length_append]
  omega
theorem RnRaw.off {w w' : World} {b : Nat} {m p f x : Int} {P : Nat} {a : Option Addr} {n c : Nat} {ps : List PgX} (h : RnRaw w b m p f x P a n c ps) (hk : KeptOff (rnB b a c ps) w w') : RnRaw w' b m p f x P a n c ps := by
  obtain ⟨S, h1, h2⟩ := hk
  exact h.kept h1 (fun y hy hm => h2 y hm hy)
theorem RnRaw.ptAt {w : World} {b : Nat} {m p f x : Int} {P g o n c : Nat} {ps : List PgX} (h : RnRaw w b m p f x P (some ⟨g, o, none⟩) n c ps) {k : Nat} {q : PgX} (hp : ps[k]? = some q) : w.cell? ⟨g, o + k, none⟩ = some (.pointer (some ⟨q.b, 0, none⟩)) := by
  obtain ⟨hkl, hpe⟩ := List.getElem?_eq_some_iff.1 hp
  have := (h.mid.cellAt rowPt (i := k) (j := 0) (u := .pointer (some ⟨q.b, 0, none⟩)) (by simpa [ptL] using hkl) (by simp [hpe, ptV, ptL])).1
  simpa using this
theorem meas_lt {k n : Nat} (h : k < n) : n - (intOf (.int .i64 ((k : Int) + 1))).toNat < n - (intOf (.int .i64 (k : Int))).toNat := by
  show n - ((k : Int) + 1).toNat < n - ((k : Int)).toNat
  omega
set_option maxHeartbeats 4000000 in
theorem each8_iter (w : World) (b : Nat) (m pl x : Int) (F P : Nat) (a : Option Addr) (n c : Nat) (ps : List PgX) (h : RnRaw w b m pl (F : Nat) x P a n c ps) (hF : F + (lnsS (shs ps)).length ≤ 2000000000) :
    IterK Tryz.prog 52 #[.pointer (some ⟨b, 0, none⟩)] encP (rnB b a c ps) (numP F ps) w := by
  intro l J Jx W hoff hJ hJx hY h0
  have hl := h.plen
  have hB := hide (fun w1 (hk : KeptOff (rnB b a c ps) w w1) => h.off hk)
  obtain ⟨q0, q1, q2, q3, q4⟩ := (hB.out W hoff).box.at
  have hH := hide h
  have hF := hide hF
  clear h
  show CallsIn Fence.wide 0 Tryz.prog 52 #[.pointer (some ⟨b, 0, none⟩), .func (.yield l) #[] #[]] W _
  refine callsIn_of_wp Tryz.func52 rfl trivial ?_ rfl
  simp only [Tryz.ntmps52, List.size_toArray, List.length_cons, List.length_nil, Nat.reduceAdd, Nat.reduceSub, Array.replicate_succ, Array.replicate_zero, List.push_toArray, List.append_toArray, List.nil_append, List.cons_append]
  gi_wp2
  gi_loopw [4, 16] (fun s4 s16 wr => ∃ k : Nat, s16 = .int .i64 k ∧ k ≤ n ∧ s4 = .int .i64 ((F + (lnsS (shs (ps.take k))).length : Nat) : Int) ∧ J ((numP F ps).take k) wr ∧ KeptOff (rnB b a c ps) w wr) (fun _ s16 _ => n - (intOf s16).toNat)
  case atStart => exact ⟨0, rfl, Nat.zero_le _, by simp [shs, lnsS], by simpa using h0, hoff⟩
  case round =>
    obtain ⟨k, rfl, hkn, rfl, hJk, hkr⟩ := hrel
    clear q0 q1 q2 q3 q4
    by_cases hlt : k < n
    · obtain ⟨p, hp⟩ : ∃ p, ps[k]? = some p := ⟨ps[k]'(by omega), List.getElem?_eq_getElem _⟩
      have hki : (k : Int) < (n : Int) := Int.ofNat_lt.2 hlt
      obtain ⟨g, o, rfl⟩ := (hB.out wr hkr).mid.rd.rowAddr rowPt (by simp [ptL]; omega)
      have q5 := (hB.out wr hkr).ptAt hp
      have hcap := (hB.out wr hkr).mid.caps
      have hwk : Hid (wrap64 ((k : Int) + 1) = (k : Int) + 1) := hide (by unfold wrap64; unfold maxLen at hcap; omega)
      clear hcap
      have hget := numP_get F ps k p hp
      have hsplit : numP F ps = (numP F ps).take k ++ (F + (lnsS (shs (ps.take k))).length, p) :: (numP F ps).drop (k + 1) := by
        obtain ⟨hlt', e⟩ := List.getElem?_eq_some_iff.1 hget
        rw [← e, List.getElem_cons_drop, List.take_append_drop]
      have htk : (numP F ps).take (k + 1) = (numP F ps).take k ++ [(F + (lnsS (shs (ps.take k))).length, p)] := by
        rw [List.take_add_one, hget]; rfl
      have hsum := lnsS_take_succ ps k p hp
      have hle := lnsS_take_le ps (k + 1)
      obtain ⟨N, hN⟩ : ∃ N : Nat, F + (lnsS (shs (ps.take k))).length = N := ⟨_, rfl⟩
      rw [hN] at hsplit htk
      obtain ⟨fn, tmps, assign, body, hy, hR⟩ := hY _ _ _ wr hsplit hkr hJk
      simp only [hN]
      have hw1 : IntKind.i64.wrap ((N : Int) + ((p.s.ls.length : Nat) : Int)) = ((F + (lnsS (shs (ps.take (k + 1)))).length : Nat) : Int) := by rw [IntKind.wrap_i64]; have := hF.out; omega
      obtain ⟨N2, hN2⟩ : ∃ N2 : Nat, F + (lnsS (shs (ps.take (k + 1)))).length = N2 := ⟨_, rfl⟩
      rw [hN2] at hw1
      obtain ⟨LP, hLP⟩ : ∃ LP : Nat, p.s.ls.length = LP := ⟨_, rfl⟩
      rw [hLP] at hw1
      have hPL := hide (fun w1 (hk : KeptOff (rnB b (some ⟨g, o, none⟩) c ps) w w1) => by have := ((hB.out w1 hk).pgs p (by obtain ⟨hkl, hpe⟩ := List.getElem?_eq_some_iff.1 hp; exact hpe ▸ List.getElem_mem hkl)).lenC; rw [hLP] at this; exact this)
      unfold encP at hy
      dsimp only at hy
      have hN := hide hN
      have hN2 := hide hN2
      have htk := hide htk
      clear hsum hle hsplit hget hLP
      gi_wp2
      refine ⟨rfl, hR.mono ?_⟩
      rintro e W2 (⟨rfl, hJ2, hk2⟩ | ⟨rfl, hJx2⟩)
      · have hkr2 := hkr.trans hk2
        gi_wp2
        refine ⟨trivial, rfl, (callsIn_wide.2 (hPL.out W2 hkr2)).mono ?_⟩
        rintro e W3 ⟨rfl, hj3⟩
        gi_wp2
        go_roundw
        case rel => exact ⟨k + 1, by rw [hwk.out]; rfl, Nat.succ_le_of_lt hlt, by rw [hN2.out], by rw [htk.out]; exact hJ _ _ _ hJ2 hj3, hkr2.trans (.of hj3)⟩
        case measure =>
          rw [hwk.out]
          exact meas_lt hlt
      · gi_wp2
        refine bodyPost_ret (results_none rfl _ _ _) rfl ?_
        exact ⟨⟨_, rfl⟩, .inr ⟨_, hJx2⟩⟩
    · obtain rfl : k = n := by omega
      gi_wp2
      go_end0
      exact ⟨⟨_, rfl⟩, .inl (by rw [List.take_of_length_le (by rw [numP_len]; omega)] at hJk; exact hJk)⟩
end Go.Proofs.YtnkddhmhjnhgcaaGreatDoor
