/- sort.Find, over whatever compares; isMark, isWide; Of, columnsOf. -/
import Derived.Test.YtpeedjknjjbabaaDoorWidLeaf
import Derived.Deep.LoopGhost
import Derived.Shelf.Abstract
namespace Go.Proofs.YtpeedjknjjbabaaDoor
open Go.RowKit
set_option linter.unusedVariables false

/-- What sort.Find returns. -/
def FindRet (n : Nat) (F : Nat → Int) (w : World) (e : Ending) (w' : World) : Prop :=
  ∃ i : Nat, e = .returned (.tuple #[.int .i64 i, .bool (decide (i < n) && decide (F i = 0))]) ∧ i ≤ n ∧ (∀ t, t < i → 0 < F t) ∧ (∀ t, i ≤ t → t < n → F t ≤ 0) ∧ Kept [] w w'

set_option maxHeartbeats 2000000 in
theorem find_any (g : Nat) (cb : Array Value) (n : Nat) (F : Nat → Int) (w : World) (eg : ∀ args w, (callFunc g args).run Tryd.prog w = .ok (.enter g args) w) (hsz : n < 1000)
    (hf : ∀ W i, Kept [] w W → i < n → Calls Tryd.prog g (#[.int .i64 i] ++ cb) W fun e w' => e = .returned (.int .i64 (F i)) ∧ Kept [] W w')
    (hmono : ∀ a b, a ≤ b → b < n → 0 < F b → 0 < F a) :
    Calls Tryd.prog 73 #[.int .i64 n, .func (.func g) #[] cb] w (FindRet n F w) := by
  have HF := hide hf
  have M := hide hmono
  clear hf hmono
  go_enter Tryd.func73, Tryd.ntmps73
  go_wp2
  go_loopg [4, 6] n (fun kx s5 s6 wr => ∃ (lo hi : Nat), s5 = .int .i64 lo ∧ s6 = .int .i64 hi ∧ lo ≤ hi ∧ hi ≤ n ∧ hi - lo ≤ kx ∧ Kept [] w wr ∧
    Hid ((∀ t, t < lo → 0 < F t) ∧ (∀ t, hi ≤ t → t < n → F t ≤ 0)))
  case atStart => exact ⟨0, n, rfl, rfl, Nat.zero_le _, Nat.le_refl _, by omega, Kept.refl _ _, hide ⟨fun t ht => absurd ht (Nat.not_lt_zero _), fun t h1 h2 => by omega⟩⟩
  case round =>
    obtain ⟨lo, hi, rfl, rfl, hlh, hin, hg, hk, I⟩ := hrel
    by_cases hlt : lo < hi
    · have hc := HF.out wr ((lo + hi) / 2) hk (by omega)
      rw [show (((lo + hi) / 2 : Nat) : Int) = ((lo : Int) + (hi : Int)) / 2 by omega] at hc
      by_cases hp : 0 < F ((lo + hi) / 2)
      · have HP := hide hp
        generalize F ((lo + hi) / 2) = v at hc hp
        go_wp2_with (go_at_fn g; refine hc.mono ?_; rintro e w' ⟨rfl, hk2⟩)
        go_roundg (hi - ((lo + hi) / 2 + 1))
        case measure => omega
        case rel =>
          have I2 := hide (⟨fun t ht => M.out t ((lo + hi) / 2) (by omega) (by omega) HP.out, I.out.2⟩ : (∀ t, t < (lo + hi) / 2 + 1 → 0 < F t) ∧ (∀ t, hi ≤ t → t < n → F t ≤ 0))
          exact ⟨(lo + hi) / 2 + 1, hi, by rw [show ((lo : Int) + (hi : Int)) / 2 + 1 = (((lo + hi) / 2 + 1 : Nat) : Int) by omega], rfl, by omega, hin, Nat.le_refl _, hk.trans hk2 (by simp), I2⟩
      · have HP := hide hp
        generalize F ((lo + hi) / 2) = v at hc hp
        go_wp2_with (go_at_fn g; refine hc.mono ?_; rintro e w' ⟨rfl, hk2⟩)
        go_roundg ((lo + hi) / 2 - lo)
        case measure => omega
        case rel =>
          have I2 := hide (⟨I.out.1, fun t ht htn => by
            rcases Int.lt_or_le 0 (F t) with h | h
            · exact absurd (M.out ((lo + hi) / 2) t ht htn h) (Int.not_lt.2 HP.out)
            · exact h⟩ : (∀ t, t < lo → 0 < F t) ∧ (∀ t, (lo + hi) / 2 ≤ t → t < n → F t ≤ 0))
          exact ⟨lo, (lo + hi) / 2, rfl, by rw [show ((lo : Int) + (hi : Int)) / 2 = (((lo + hi) / 2 : Nat) : Int) by omega], by omega, by omega, Nat.le_refl _, hk.trans hk2 (by simp), I2⟩
    · obtain rfl : hi = lo := by omega
      by_cases hn : hi < n
      · have hc := HF.out wr hi hk hn
        by_cases hz : F hi = 0
        · rw [hz] at hc
          go_wp2_with (go_at_fn g; refine hc.mono ?_; rintro e w' ⟨rfl, hk2⟩)
          refine bodyPost_ret (v := .tuple #[.int .i64 hi, .bool true]) (by simp [results, Tryd.results73, go_sem]) rfl ?_
          exact ⟨hi, by simp [hn, hz], hin, I.out.1, I.out.2, hk.trans hk2 (by simp)⟩
        · have HZ := hide hz
          generalize F hi = v at hc hz
          go_wp2_with (go_at_fn g; refine hc.mono ?_; rintro e w' ⟨rfl, hk2⟩)
          refine bodyPost_ret (v := .tuple #[.int .i64 hi, .bool false]) (by simp [results, Tryd.results73, go_sem, hz]) rfl ?_
          exact ⟨hi, by simp [HZ.out], hin, I.out.1, I.out.2, hk.trans hk2 (by simp)⟩
      · go_wp2_with fail
        refine bodyPost_ret (v := .tuple #[.int .i64 hi, .bool false]) (by simp [results, Tryd.results73, go_sem]) rfl ?_
        exact ⟨hi, by simp [hn], hin, I.out.1, I.out.2, hk⟩

/-- The tables as they lie in memory. -/
def TabAt (w : World) (b : Nat) (T : List (Int × Int)) : Prop := ∀ i, i < T.length → w.cell? ⟨b, i * 2, none⟩ = some (.int .i32 (T.getD i (0, 0)).1) ∧ w.cell? ⟨b, i * 2 + 1, none⟩ = some (.int .i32 (T.getD i (0, 0)).2)
def Tabs (w : World) : Prop := TabAt w 0 marksT ∧ TabAt w 1 wideT
theorem TabAt.kept {S : List Nat} {w w' : World} {b : Nat} {T : List (Int × Int)} (h : TabAt w b T) (hk : Kept S w w') (hb : b ∉ S) : TabAt w' b T :=
  fun i hi => ⟨hk.cell (h i hi).1 hb, hk.cell (h i hi).2 hb⟩
theorem Tabs.kept {w w' : World} (h : Tabs w) (hk : Kept [] w w') : Tabs w' := ⟨h.1.kept hk (by simp), h.2.kept hk (by simp)⟩
theorem Tabs.kept2 {S : List Nat} {w w' : World} (h : Tabs w) (hk : Kept S w w') (hS : ∀ x ∈ S, 2 ≤ x) : Tabs w' :=
  ⟨h.1.kept hk (fun hm => by have := hS 0 hm; omega), h.2.kept hk (fun hm => by have := hS 1 hm; omega)⟩

set_option maxHeartbeats 1000000 in
theorem isMark_any (r : Int) (w : World) (ht : Tabs w) :
    Calls Tryd.prog 63 #[.int .i32 r] w fun e w' => e = .returned (.bool (inT marksT r)) ∧ Kept [] w w' := by
  obtain ⟨W0, hW0⟩ : ∃ W0, W0 = w.alloc (.cells #[.int .i32 r] 21) := ⟨_, rfl⟩
  have hk0 : Kept [] w W0 := by rw [hW0]; exact (Kept.refl [] w).alloc _
  have hx : W0.cell? ⟨w.heap.size, 0, none⟩ = some (.int .i32 r) := by rw [hW0]; simp [go_sem]
  have eg : ∀ args w, (callFunc 74 args).run Tryd.prog w = .ok (.enter 74 args) w := enters_of Tryd.func74 (by kernel_rfl) rfl
  have hS := find_any 74 #[.pointer (some ⟨w.heap.size, 0, none⟩)] 18 (fun i => sideI r (marksT.getD i (0, 0))) W0 eg (by omega)
    (fun W i hk hi => cmark_any r _ i _ W hi (hk.cell hx (by simp)) (((ht.kept hk0).kept hk).1 i hi).1 (((ht.kept hk0).kept hk).1 i hi).2)
    (fun a b hab hb => side_mono marks_sorted r a b hab hb)
  have hS : Calls Tryd.prog 73 #[.int .i64 18, .func (.func 74) #[] #[.pointer (some ⟨w.heap.size, 0, none⟩)]] W0 fun e w' => ∃ i : Nat, e = .returned (.tuple #[.int .i64 i, .bool (inT marksT r)]) ∧ Kept [] W0 w' :=
    hS.mono fun e w' ⟨i, he, _, h1, h2, hk⟩ => ⟨i, by rw [he, ← found_is marks_sorted r i h1 h2]; rfl, hk⟩
  clear hx ht
  generalize inT marksT r = R at *
  go_enter Tryd.func63, Tryd.ntmps63
  go_wp2_with (go_at_call 73; rw [← hW0]; refine hS.mono ?_; rintro e w1 ⟨i, rfl, hk⟩)
  go_ret
  exact ⟨rfl, hk0.trans hk (by simp)⟩

set_option maxHeartbeats 1000000 in
theorem isWide_any (r : Int) (w : World) (ht : Tabs w) :
    Calls Tryd.prog 64 #[.int .i32 r] w fun e w' => e = .returned (.bool (inT wideT r)) ∧ Kept [] w w' := by
  obtain ⟨W0, hW0⟩ : ∃ W0, W0 = w.alloc (.cells #[.int .i32 r] 21) := ⟨_, rfl⟩
  have hk0 : Kept [] w W0 := by rw [hW0]; exact (Kept.refl [] w).alloc _
  have hx : W0.cell? ⟨w.heap.size, 0, none⟩ = some (.int .i32 r) := by rw [hW0]; simp [go_sem]
  have eg : ∀ args w, (callFunc 76 args).run Tryd.prog w = .ok (.enter 76 args) w := enters_of Tryd.func76 (by kernel_rfl) rfl
  have hS := find_any 76 #[.pointer (some ⟨w.heap.size, 0, none⟩)] 19 (fun i => sideI r (wideT.getD i (0, 0))) W0 eg (by omega)
    (fun W i hk hi => cwide_any r _ i _ W hi (hk.cell hx (by simp)) (((ht.kept hk0).kept hk).2 i hi).1 (((ht.kept hk0).kept hk).2 i hi).2)
    (fun a b hab hb => side_mono wide_sorted r a b hab hb)
  have hS : Calls Tryd.prog 73 #[.int .i64 19, .func (.func 76) #[] #[.pointer (some ⟨w.heap.size, 0, none⟩)]] W0 fun e w' => ∃ i : Nat, e = .returned (.tuple #[.int .i64 i, .bool (inT wideT r)]) ∧ Kept [] W0 w' :=
    hS.mono fun e w' ⟨i, he, _, h1, h2, hk⟩ => ⟨i, by rw [he, ← found_is wide_sorted r i h1 h2]; rfl, hk⟩
  clear hx ht
  generalize inT wideT r = R at *
  go_enter Tryd.func64, Tryd.ntmps64
  go_wp2_with (go_at_call 73; rw [← hW0]; refine hS.mono ?_; rintro e w1 ⟨i, rfl, hk⟩)
  go_ret
  exact ⟨rfl, hk0.trans hk (by simp)⟩

set_option maxHeartbeats 1000000 in
theorem of_any (r : Int) (w : World) (ht : Tabs w) :
    Calls Tryd.prog 55 #[.int .i32 r] w fun e w' => e = .returned (.int .i64 (ofI r)) ∧ Kept [] w w' := by
  have hp := printed_any r w
  have hm := isMark_any r w ht
  have hw := hide (fun w1 hk => isWide_any r w1 (ht.kept hk) : ∀ w1, Kept [] w w1 → _)
  have hR : ofI r = if printedI r = true then (if inT marksT r = true then 0 else if inT wideT r = true then 2 else 1) else -1 := rfl
  generalize ofI r = R at *
  generalize printedI r = p at *
  generalize inT marksT r = m at *
  generalize inT wideT r = d at *
  clear ht
  have hR' := hide hR
  clear hR
  cases p
  · go_enter Tryd.func55, Tryd.ntmps55
    go_wp2_with (go_at_call 62; refine hp.mono ?_; rintro e w1 ⟨rfl, rfl⟩)
    go_ret
    exact ⟨ret_int hR'.out.symm, Kept.refl _ _⟩
  · cases m
    · cases d
      · go_enter Tryd.func55, Tryd.ntmps55
        go_wp2_with (first | (go_at_call 62; refine hp.mono ?_; rintro e w1 ⟨rfl, rfl⟩) | (go_at_call 63; refine hm.mono ?_; rintro e w2 ⟨rfl, hk2⟩) | (go_at_call 64; refine (hw.out w2 hk2).mono ?_; rintro e w3 ⟨rfl, hk3⟩))
        go_ret
        exact ⟨ret_int hR'.out.symm, hk2.trans hk3 (by simp)⟩
      · go_enter Tryd.func55, Tryd.ntmps55
        go_wp2_with (first | (go_at_call 62; refine hp.mono ?_; rintro e w1 ⟨rfl, rfl⟩) | (go_at_call 63; refine hm.mono ?_; rintro e w2 ⟨rfl, hk2⟩) | (go_at_call 64; refine (hw.out w2 hk2).mono ?_; rintro e w3 ⟨rfl, hk3⟩))
        go_ret
        exact ⟨ret_int hR'.out.symm, hk2.trans hk3 (by simp)⟩
    · go_enter Tryd.func55, Tryd.ntmps55
      go_wp2_with (first | (go_at_call 62; refine hp.mono ?_; rintro e w1 ⟨rfl, rfl⟩) | (go_at_call 63; refine hm.mono ?_; rintro e w2 ⟨rfl, hk2⟩))
      go_ret
      exact ⟨ret_int hR'.out.symm, hk2⟩
end Go.Proofs.YtpeedjknjjbabaaDoor
