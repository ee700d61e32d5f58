/- Which runs are right, how many cells they are; packing cells. -/
import Derived.Test.YtpdjlollijbdeaaDoorPakTot
namespace Go.Proofs.YtpdjlollijbdeaaDoor
open Go.RowKit
set_option linter.unusedVariables false
set_option maxRecDepth 10000

theorem Valid5_any (a : Option Addr) (n c : Nat) (l : List Ru) (hB : ∀ r ∈ l, RuB r) (w : World) (ht : Tabs w) (hr : Rd w a n 4 (runsV l)) (hn : n ≤ 1000000) :
    Calls Tryd.prog 20 #[.slice a n c] w fun e w' => e = .returned (.bool (totI l).2) ∧ Kept [] w w' := by
  have hT := hide (total_any a n c l hB w ht hr hn)
  clear hr ht hB
  generalize totI l = R at *
  go_enter Tryd.func20, Tryd.ntmps20
  go_wp2_with fail
  refine hT.out.mono ?_
  rintro e w1 ⟨rfl, hk1⟩
  go_wp2_with fail
  go_ret
  exact ⟨rfl, hk1⟩
theorem Count5_any (a : Option Addr) (n c : Nat) (l : List Ru) (hB : ∀ r ∈ l, RuB r) (w : World) (ht : Tabs w) (hr : Rd w a n 4 (runsV l)) (hn : n ≤ 1000000) :
    Calls Tryd.prog 21 #[.slice a n c] w fun e w' => e = .returned (.int .i64 (totI l).1) ∧ Kept [] w w' := by
  have hT := hide (total_any a n c l hB w ht hr hn)
  clear hr ht hB
  generalize totI l = R at *
  go_enter Tryd.func21, Tryd.ntmps21
  go_wp2_with fail
  refine hT.out.mono ?_
  rintro e w1 ⟨rfl, hk1⟩
  go_wp2_with fail
  go_ret
  exact ⟨rfl, hk1⟩

/-- What Pack, Join return: runs of the call's own, and an error's number. -/
def RunsRet (w : World) (E : List Ru × Int) (e : Ending) (w' : World) : Prop :=
  ∃ a' n' c', e = .returned (.tuple #[.slice a' n' c', .int .i64 E.2]) ∧ Own w' w.heap.size 67 a' n' c' 4 (runsV E.1) ∧ Kept [] w w'
theorem Kept.own {w0 w w' : World} {a : Option Addr} (h : Kept [] w0 w) (hk : Kept (blk a) w w') (hb : ∀ g ∈ blk a, w0.heap.size ≤ g) : Kept [] w0 w' := h.trans hk (fun x hx => .inr (hb x hx))

set_option maxHeartbeats 4000000 in
theorem Pack5_any (a : Option Addr) (n c : Nat) (l : List Cl) (hB : ∀ x ∈ l, PnB x.p) (w : World) (ht : Tabs w) (hr : Rd w a n 16 (cellsV l)) (hn : n ≤ 1000000) :
    Calls Tryd.prog 25 #[.slice a n c] w (RunsRet w (packR l)) := by
  have hl := hr.clen
  have hH := hide hr
  have hC := hide (fun (x : Cl) hb w1 (hk : Kept [] w w1) => Words_any x hb w1 (ht.kept hk))
  have hBB := hide hB
  have hP : Hid (packR l = if 100000 < l.length then ([], 5) else if (∀ c ∈ l, validC c = true) then (packL l, 0) else ([], 2)) := hide rfl
  generalize packR l = R at *
  clear hr ht hB
  by_cases hbig : 100000 < n
  · have hR : R = ([], 5) := by rw [hP.out, if_pos (by omega)]
    subst hR
    go_enter Tryd.func25, Tryd.ntmps25
    go_wp2_with fail
    go_ret2
    exact ⟨none, 0, 0, rfl, Own.nil _ _ _ _, Kept.refl _ _⟩
  · have hP2 : Hid (R = if (∀ c ∈ l, validC c = true) then (packL l, 0) else ([], 2)) := hide (by rw [hP.out, if_neg (by omega)])
    clear hP
    go_enter Tryd.func25, Tryd.ntmps25
    go_wp2_with fail
    have hl := hide hl
    go_loopg [4, 6, 7, 8, 14, 15, 16, 17, 18, 19, 20, 21, 22, 23, 24, 25, 26, 27, 28, 29, 30] n (fun kx s4 s6 s7 s8 s14 s15 s16 s17 s18 s19 s20 s21 s22 s23 s24 s25 s26 s27 s28 s29 s30 wr => ∃ (k : Nat) (a' : Option Addr) (n' c' : Nat), s4 = .slice a' n' c' ∧ s14 = .int .i64 k ∧ k ≤ n ∧ n - k ≤ kx ∧ n' ≤ k ∧ Hid (Own wr w.heap.size 67 a' n' c' 4 (runsV (packL (l.take k)))) ∧ Hid (∀ x ∈ l.take k, validC x = true) ∧ Kept [] w wr)
    case atStart => exact ⟨0, none, 0, 0, rfl, rfl, Nat.zero_le _, by omega, Nat.le_refl _, hide (Own.nil _ _ _ _), hide (by simp), Kept.refl _ _⟩
    case round =>
      obtain ⟨k, a', n', c', rfl, rfl, hk, hg, hn', ho, hv, hkr⟩ := hrel
      by_cases hlt : k < n
      · have hkl : k < l.length := by rw [hl.out]; exact hlt
        obtain ⟨b, o, rfl⟩ := hH.out.addr (fun h => by rw [h] at hkl; cases hkl)
        have r1 := (hH.out.cel k hkl).kept hkr (by simp)
        have hkn : (k : Int) < (n : Int) := by omega
        have hxB := hBB.out l[k] (List.getElem_mem hkl)
        have hnext := hide (packL_take (l := l) hkl)
        have hfine := hide (pack_fine k l (by omega))
        have hvn := hide (fun h : validC l[k] = true => (by rw [List.take_succ_eq_append_getElem hkl]; intro x hx; rcases List.mem_append.1 hx with hx | hx; exact hv.out x hx; simp at hx; rw [hx]; exact h : ∀ x ∈ l.take (k + 1), validC x = true))
        have hbad : Hid (validC l[k] = false → R = ([], 2)) := hide (fun h => by
          rw [hP2.out, if_neg]
          intro h2
          rw [h2 _ (List.getElem_mem hkl)] at h
          cases h)
        generalize l[k] = x at *
        have hCx := hide (fun w1 hk => hC.out x hxB w1 hk)
        have hz1 := CelIn.new wr zeroK
        go_upto_region 7 with (first | refine wpList_load_cel rfl rfl b (o + k * 16) rfl r1 ?_ | (refine wpList_store_cel rfl rfl rfl wr.heap.size rfl hz1 x rfl ?_; intro w2 hc2 hk2))
        have hk12 : Kept [] wr w2 := ((Kept.refl [] wr).alloc _).trans hk2 (by intro z hz; simp at hz; omega)
        have hk2' := hkr.trans hk12 (by simp)
        have r2 := hc2.range
        go_wp2_with (refine wpList_load_cel rfl rfl wr.heap.size 0 rfl r2 ?_)
        have hE := hide (show wordsE x = if validC x = true then (wordsC x, 0) else (zeroW, 2) from rfl)
        generalize wordsE x = E at *
        obtain ⟨E1, E2⟩ := E
        simp only at hCx
        refine (hCx.out w2 hk2').mono ?_
        rintro e w3 ⟨rfl, hk23⟩
        have hk3 := hk2'.trans hk23 (by simp)
        have hge := hide (fun g hg => (ho.out.ge g hg).1 : ∀ g ∈ blk a', w.heap.size ≤ g)
        have ho3 := hide (ho.out.kept (hk12.trans hk23 (by simp)) (by simp))
        clear r1 r2 hz1 hc2 hk2 hk12 hk2' hk23 ho hCx
        cases hvx : validC x
        · have hR := hbad.out hvx
          have hE' := hE.out
          rw [hvx] at hE'
          simp at hE'
          obtain ⟨rfl, rfl⟩ := hE'
          go_wp2_with fail
          go_ret2
          exact ⟨none, 0, 0, by rw [hR]; rfl, by rw [hR]; exact Own.nil _ _ _ _, hk3.alloc _⟩
        · have hE' := hE.out
          rw [hvx] at hE'
          simp at hE'
          obtain ⟨rfl, rfl⟩ := hE'
          have ho4 := ho3.out.kept ((Kept.refl [] w3).alloc (.cells #[.int .u64 (wordsC x).a, .int .u64 (wordsC x).b, .int .u64 (wordsC x).c] 34)) (by simp)
          have hk4 : Kept [] w (w3.alloc (.cells #[.int .u64 (wordsC x).a, .int .u64 (wordsC x).b, .int .u64 (wordsC x).c] 34)) := hk3.alloc _
          have hA := hide (appendRun_any a' n' c' w.heap.size _ (oneR x) _ ho4 (fun q hq => by
            have h := hfine.out.mem q hq
            have hkk : (k : Int) ≤ 1000000 := by omega
            exact ⟨by simp only [oneR]; omega, by simp only [oneR]; omega⟩) (by omega) hk4.size)
          have h1 : oneR x = ⟨1, wordsC x⟩ := rfl
          have hlen := pack_len (k + 1) l (by omega)
          rw [hnext.out, h1] at hlen
          have hnx : packL (l.take (k + 1)) = addRun (packL (l.take k)) ⟨1, wordsC x⟩ := hnext.out
          have hnx := hide hnx
          rw [h1] at hA
          clear h1 hnext ho4 ho3 hE hfine
          generalize wordsC x = y at *
          simp only at hA
          go_wp2_with fail
          refine hA.out.mono ?_
          rintro e w5 ⟨a5, n5, c5, rfl, ho5, hk5, hat5⟩
          have hn5 : n5 ≤ k + 1 := by have := ho5.rd.runs; omega
          go_wp2_with fail
          go_roundg (n - (k + 1))
          case measure => omega
          case rel => exact ⟨k + 1, a5, n5, c5, rfl, by push_cast; rfl, by omega, Nat.le_refl _, hn5, hide (by rw [hnx.out]; exact ho5), hide (hvn.out hvx), hk4.own hk5 (fun g hg => hge.out g hg)⟩
      · obtain rfl : k = n := by omega
        go_wp2_with fail
        go_ret2
        have e : l.take k = l := List.take_of_length_le (Nat.le_of_eq hl.out)
        rw [e] at ho hv
        refine ⟨a', n', c', ?_, ?_, hkr⟩
        · rw [hP2.out, if_pos hv.out]; rfl
        · rw [hP2.out, if_pos hv.out]; exact ho.out
end Go.Proofs.YtpdjlollijbdeaaDoor
