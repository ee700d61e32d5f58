/- The leaf functions of layer 2 and of its reference: what each returns. sort.Find, over whatever compares; isMark, isWide; Of, columnsOf. From the listed variables to the tables' cells. -/
import Derived.Test.YtnkddhmhjnhgcaaGreatDoorRows
import Derived.Test.YtnkddhmhjnhgcaaGreatDoorUtil
import Derived.Test.YtnkddhmhjnhgcaaGreatDoorMaths
import Derived.WalkKit
import Derived.WalkSpells
import Derived.WalkLawsBesides
import Derived.BigQuiet
import Derived.StillTailTactics
import Derived.Deep.LoopGhost
import Derived.Shelf.Abstract
import Derived.ProofKit
import Derived.LaidMore
import Derived.OpenShut
import Derived.Lib.LaidTab
import Derived.LaidOnce
import Derived.LaidSub
namespace Go.Proofs.YtnkddhmhjnhgcaaGreatDoor
open Go.RowKit
set_option linter.unusedVariables false

/-- A number of 32 bits. -/
def I32 (r : Int) : Prop := -2147483648 ≤ r ∧ r ≤ 2147483647

set_option maxHeartbeats 400000 in
theorem printed_any (r : Int) (w : World) :
    Calls Tryz.prog 89 #[.int .i32 r] w fun e w' => e = .returned (.bool (printedI r)) ∧ w = w' := by
  have h : r < 32 ∨ (32 ≤ r ∧ r < 127) ∨ (127 ≤ r ∧ r ≤ 159) ∨ (159 < r ∧ r < 55296) ∨ (55296 ≤ r ∧ r ≤ 57343) ∨ (57343 < r ∧ r ≤ 1114111) ∨ 1114111 < r := by omega
  rcases h with h | h | h | h | h | h | h
  all_goals
    go_enter Tryz.func89, Tryz.ntmps89
    go_wp2
    go_ret
    exact ⟨ret_bool (by unfold printedI; rw [Bool.eq_iff_iff]; simp; omega), rfl⟩

set_option maxHeartbeats 400000 in
theorem rprinted_any (r : Int) (w : World) :
    Calls Tryz.prog 94 #[.int .i32 r] w fun e w' => e = .returned (.bool (printedI r)) ∧ w = w' := by
  have h : r < 32 ∨ (32 ≤ r ∧ r < 127) ∨ (127 ≤ r ∧ r ≤ 159) ∨ (159 < r ∧ r < 55296) ∨ (55296 ≤ r ∧ r ≤ 57343) ∨ (57343 < r ∧ r ≤ 1114111) ∨ 1114111 < r := by omega
  rcases h with h | h | h | h | h | h | h
  all_goals
    go_enter Tryz.func94, Tryz.ntmps94
    go_wp2
    go_ret
    exact ⟨ret_bool (by unfold printedI; rw [Bool.eq_iff_iff]; simp; omega), rfl⟩

set_option maxHeartbeats 400000 in
theorem side_any (r a b : Int) (w : World) :
    Calls Tryz.prog 102 #[.int .i32 r, .agg #[.int .i32 a, .int .i32 b]] w fun e w' => e = .returned (.int .i64 (sideI r (a, b))) ∧ Kept [] w w' := by
  have h : r < a ∨ (a ≤ r ∧ b < r) ∨ (a ≤ r ∧ r ≤ b) := by omega
  rcases h with h | h | h
  all_goals
    go_enter Tryz.func102, Tryz.ntmps102
    go_wp2
    go_ret
    exact ⟨ret_int (by unfold sideI; repeat (first | rw [if_pos (by simp; omega)] | rw [if_neg (by simp; omega)])), (Kept.refl _ _).alloc _⟩

set_option maxRecDepth 100000 in
theorem cmark_any (r : Int) (x : Int × Int) (i bx : Nat) (w : World) (hi : i < 18) (hx : w.cell? ⟨bx, 0, none⟩ = some (.int .i32 r)) (ha : w.cell? ⟨0, i * 2, none⟩ = some (.int .i32 x.1)) (hb : w.cell? ⟨0, i * 2 + 1, none⟩ = some (.int .i32 x.2)) :
    Calls Tryz.prog 101 (#[.int .i64 i] ++ #[.pointer (some ⟨bx, 0, none⟩)]) w fun e w' => e = .returned (.int .i64 (sideI r x)) ∧ Kept [] w w' := by
  obtain ⟨a, b⟩ := x
  have hs := hide (fun w => side_any r a b w)
  have hiz : (i : Int) < 18 := by omega
  generalize sideI r (a, b) = s at *
  go_enter Tryz.func101, Tryz.ntmps101
  go_wp2_with fail
  go_still_tail 4, (by kernel_rfl)
  change wpList _ _ _ _ _ w.drew
  go_wp2_with (go_at_call 102; refine (hs.out _).mono ?_; rintro e w1 ⟨rfl, hk⟩)
  go_ret
  exact ⟨rfl, ((Kept.refl [] w).drew).trans hk (by simp)⟩

set_option maxRecDepth 100000 in
theorem cwide_any (r : Int) (x : Int × Int) (i bx : Nat) (w : World) (hi : i < 19) (hx : w.cell? ⟨bx, 0, none⟩ = some (.int .i32 r)) (ha : w.cell? ⟨1, i * 2, none⟩ = some (.int .i32 x.1)) (hb : w.cell? ⟨1, i * 2 + 1, none⟩ = some (.int .i32 x.2)) :
    Calls Tryz.prog 103 (#[.int .i64 i] ++ #[.pointer (some ⟨bx, 0, none⟩)]) w fun e w' => e = .returned (.int .i64 (sideI r x)) ∧ Kept [] w w' := by
  obtain ⟨a, b⟩ := x
  have hs := hide (fun w => side_any r a b w)
  have hiz : (i : Int) < 19 := by omega
  generalize sideI r (a, b) = s at *
  go_enter Tryz.func103, Tryz.ntmps103
  go_wp2_with fail
  go_still_tail 4, (by kernel_rfl)
  change wpList _ _ _ _ _ w.drew
  go_wp2_with (go_at_call 102; refine (hs.out _).mono ?_; rintro e w1 ⟨rfl, hk⟩)
  go_ret
  exact ⟨rfl, ((Kept.refl [] w).drew).trans hk (by simp)⟩

end Go.Proofs.YtnkddhmhjnhgcaaGreatDoor
namespace Go.Proofs.YtnkddhmhjnhgcaaGreatDoor
open Go.RowKit
set_option linter.unusedVariables false

/-- What sort.Find returns. -/
def FindRet (n : Nat) (F : Nat → Int) (w : World) (e : Ending) (w' : World) : Prop :=
  ∃ i : Nat, e = .returned (.tuple #[.int .i64 i, .bool (decide (i < n) && decide (F i = 0))]) ∧ i ≤ n ∧ (∀ t, t < i → 0 < F t) ∧ (∀ t, i ≤ t → t < n → F t ≤ 0) ∧ Kept [] w w'

set_option maxHeartbeats 2000000 in
theorem find_any (g : Nat) (cb : Array Value) (n : Nat) (F : Nat → Int) (w : World) (eg : ∀ args w, (callFunc g args).run Tryz.prog w = .ok (.enter g args) w) (hsz : n < 1000)
    (hf : ∀ W i, Kept [] w W → i < n → Calls Tryz.prog g (#[.int .i64 i] ++ cb) W fun e w' => e = .returned (.int .i64 (F i)) ∧ Kept [] W w')
    (hmono : ∀ a b, a ≤ b → b < n → 0 < F b → 0 < F a) :
    Calls Tryz.prog 100 #[.int .i64 n, .func (.func g) #[] cb] w (FindRet n F w) := by
  have HF := hide hf
  have M := hide hmono
  clear hf hmono
  go_enter Tryz.func100, Tryz.ntmps100
  go_wp2
  go_loopg [4, 6] n (fun kx s5 s6 wr => ∃ (lo hi : Nat), s5 = .int .i64 lo ∧ s6 = .int .i64 hi ∧ lo ≤ hi ∧ hi ≤ n ∧ hi - lo ≤ kx ∧ Kept [] w wr ∧
    Hid ((∀ t, t < lo → 0 < F t) ∧ (∀ t, hi ≤ t → t < n → F t ≤ 0)))
  case atStart => exact ⟨0, n, rfl, rfl, Nat.zero_le _, Nat.le_refl _, by omega, Kept.refl _ _, hide ⟨fun t ht => absurd ht (Nat.not_lt_zero _), fun t h1 h2 => by omega⟩⟩
  case round =>
    obtain ⟨lo, hi, rfl, rfl, hlh, hin, hg, hk, I⟩ := hrel
    by_cases hlt : lo < hi
    · have hc := HF.out wr ((lo + hi) / 2) hk (by omega)
      rw [show (((lo + hi) / 2 : Nat) : Int) = ((lo : Int) + (hi : Int)) / 2 by omega] at hc
      by_cases hp : 0 < F ((lo + hi) / 2)
      · have HP := hide hp
        generalize F ((lo + hi) / 2) = v at hc hp
        go_wp2_with (go_at_fn g; refine hc.mono ?_; rintro e w' ⟨rfl, hk2⟩)
        go_roundg (hi - ((lo + hi) / 2 + 1))
        case measure => omega
        case rel =>
          have I2 := hide (⟨fun t ht => M.out t ((lo + hi) / 2) (by omega) (by omega) HP.out, I.out.2⟩ : (∀ t, t < (lo + hi) / 2 + 1 → 0 < F t) ∧ (∀ t, hi ≤ t → t < n → F t ≤ 0))
          exact ⟨(lo + hi) / 2 + 1, hi, by rw [show ((lo : Int) + (hi : Int)) / 2 + 1 = (((lo + hi) / 2 + 1 : Nat) : Int) by omega], rfl, by omega, hin, Nat.le_refl _, hk.trans hk2 (by simp), I2⟩
      · have HP := hide hp
        generalize F ((lo + hi) / 2) = v at hc hp
        go_wp2_with (go_at_fn g; refine hc.mono ?_; rintro e w' ⟨rfl, hk2⟩)
        go_roundg ((lo + hi) / 2 - lo)
        case measure => omega
        case rel =>
          have I2 := hide (⟨I.out.1, fun t ht htn => by
            rcases Int.lt_or_le 0 (F t) with h | h
            · exact absurd (M.out ((lo + hi) / 2) t ht htn h) (Int.not_lt.2 HP.out)
            · exact h⟩ : (∀ t, t < lo → 0 < F t) ∧ (∀ t, (lo + hi) / 2 ≤ t → t < n → F t ≤ 0))
          exact ⟨lo, (lo + hi) / 2, rfl, by rw [show ((lo : Int) + (hi : Int)) / 2 = (((lo + hi) / 2 : Nat) : Int) by omega], by omega, by omega, Nat.le_refl _, hk.trans hk2 (by simp), I2⟩
    · obtain rfl : hi = lo := by omega
      by_cases hn : hi < n
      · have hc := HF.out wr hi hk hn
        by_cases hz : F hi = 0
        · rw [hz] at hc
          go_wp2_with (go_at_fn g; refine hc.mono ?_; rintro e w' ⟨rfl, hk2⟩)
          refine bodyPost_ret (v := .tuple #[.int .i64 hi, .bool true]) (by simp [results, Tryz.results100, go_sem]) rfl ?_
          exact ⟨hi, by simp [hn, hz], hin, I.out.1, I.out.2, hk.trans hk2 (by simp)⟩
        · have HZ := hide hz
          generalize F hi = v at hc hz
          go_wp2_with (go_at_fn g; refine hc.mono ?_; rintro e w' ⟨rfl, hk2⟩)
          refine bodyPost_ret (v := .tuple #[.int .i64 hi, .bool false]) (by simp [results, Tryz.results100, go_sem, hz]) rfl ?_
          exact ⟨hi, by simp [HZ.out], hin, I.out.1, I.out.2, hk.trans hk2 (by simp)⟩
      · go_wp2_with fail
        refine bodyPost_ret (v := .tuple #[.int .i64 hi, .bool false]) (by simp [results, Tryz.results100, go_sem]) rfl ?_
        exact ⟨hi, by simp [hn], hin, I.out.1, I.out.2, hk⟩

/-- The tables as they lie in memory. -/
def TabAt (w : World) (b : Nat) (T : List (Int × Int)) : Prop := ∀ i, i < T.length → w.cell? ⟨b, i * 2, none⟩ = some (.int .i32 (T.getD i (0, 0)).1) ∧ w.cell? ⟨b, i * 2 + 1, none⟩ = some (.int .i32 (T.getD i (0, 0)).2)
def Tabs (w : World) : Prop := TabAt w 0 marksT ∧ TabAt w 1 wideT
theorem TabAt.kept {S : List Nat} {w w' : World} {b : Nat} {T : List (Int × Int)} (h : TabAt w b T) (hk : Kept S w w') (hb : b ∉ S) : TabAt w' b T :=
  fun i hi => ⟨hk.cell (h i hi).1 hb, hk.cell (h i hi).2 hb⟩
theorem Tabs.kept {w w' : World} (h : Tabs w) (hk : Kept [] w w') : Tabs w' := ⟨h.1.kept hk (by simp), h.2.kept hk (by simp)⟩
theorem Tabs.kept2 {S : List Nat} {w w' : World} (h : Tabs w) (hk : Kept S w w') (hS : ∀ x ∈ S, 2 ≤ x) : Tabs w' :=
  ⟨h.1.kept hk (fun hm => by have := hS 0 hm; omega), h.2.kept hk (fun hm => by have := hS 1 hm; omega)⟩

set_option maxHeartbeats 1000000 in
theorem isMark_any (r : Int) (w : World) (ht : Tabs w) :
    Calls Tryz.prog 90 #[.int .i32 r] w fun e w' => e = .returned (.bool (inT marksT r)) ∧ Kept [] w w' := by
  obtain ⟨W0, hW0⟩ : ∃ W0, W0 = w.alloc (.cells #[.int .i32 r] 21) := ⟨_, rfl⟩
  have hk0 : Kept [] w W0 := by rw [hW0]; exact (Kept.refl [] w).alloc _
  have hx : W0.cell? ⟨w.heap.size, 0, none⟩ = some (.int .i32 r) := by rw [hW0]; simp [go_sem]
  have eg : ∀ args w, (callFunc 101 args).run Tryz.prog w = .ok (.enter 101 args) w := enters_of Tryz.func101 (by kernel_rfl) rfl
  have hS := find_any 101 #[.pointer (some ⟨w.heap.size, 0, none⟩)] 18 (fun i => sideI r (marksT.getD i (0, 0))) W0 eg (by omega)
    (fun W i hk hi => cmark_any r _ i _ W hi (hk.cell hx (by simp)) (((ht.kept hk0).kept hk).1 i hi).1 (((ht.kept hk0).kept hk).1 i hi).2)
    (fun a b hab hb => side_mono marks_sorted r a b hab hb)
  have hS : Calls Tryz.prog 100 #[.int .i64 18, .func (.func 101) #[] #[.pointer (some ⟨w.heap.size, 0, none⟩)]] W0 fun e w' => ∃ i : Nat, e = .returned (.tuple #[.int .i64 i, .bool (inT marksT r)]) ∧ Kept [] W0 w' :=
    hS.mono fun e w' ⟨i, he, _, h1, h2, hk⟩ => ⟨i, by rw [he, ← found_is marks_sorted r i h1 h2]; rfl, hk⟩
  clear hx ht
  generalize inT marksT r = R at *
  go_enter Tryz.func90, Tryz.ntmps90
  go_wp2_with (go_at_call 100; rw [← hW0]; refine hS.mono ?_; rintro e w1 ⟨i, rfl, hk⟩)
  go_ret
  exact ⟨rfl, hk0.trans hk (by simp)⟩

set_option maxHeartbeats 1000000 in
theorem isWide_any (r : Int) (w : World) (ht : Tabs w) :
    Calls Tryz.prog 91 #[.int .i32 r] w fun e w' => e = .returned (.bool (inT wideT r)) ∧ Kept [] w w' := by
  obtain ⟨W0, hW0⟩ : ∃ W0, W0 = w.alloc (.cells #[.int .i32 r] 21) := ⟨_, rfl⟩
  have hk0 : Kept [] w W0 := by rw [hW0]; exact (Kept.refl [] w).alloc _
  have hx : W0.cell? ⟨w.heap.size, 0, none⟩ = some (.int .i32 r) := by rw [hW0]; simp [go_sem]
  have eg : ∀ args w, (callFunc 103 args).run Tryz.prog w = .ok (.enter 103 args) w := enters_of Tryz.func103 (by kernel_rfl) rfl
  have hS := find_any 103 #[.pointer (some ⟨w.heap.size, 0, none⟩)] 19 (fun i => sideI r (wideT.getD i (0, 0))) W0 eg (by omega)
    (fun W i hk hi => cwide_any r _ i _ W hi (hk.cell hx (by simp)) (((ht.kept hk0).kept hk).2 i hi).1 (((ht.kept hk0).kept hk).2 i hi).2)
    (fun a b hab hb => side_mono wide_sorted r a b hab hb)
  have hS : Calls Tryz.prog 100 #[.int .i64 19, .func (.func 103) #[] #[.pointer (some ⟨w.heap.size, 0, none⟩)]] W0 fun e w' => ∃ i : Nat, e = .returned (.tuple #[.int .i64 i, .bool (inT wideT r)]) ∧ Kept [] W0 w' :=
    hS.mono fun e w' ⟨i, he, _, h1, h2, hk⟩ => ⟨i, by rw [he, ← found_is wide_sorted r i h1 h2]; rfl, hk⟩
  clear hx ht
  generalize inT wideT r = R at *
  go_enter Tryz.func91, Tryz.ntmps91
  go_wp2_with (go_at_call 100; rw [← hW0]; refine hS.mono ?_; rintro e w1 ⟨i, rfl, hk⟩)
  go_ret
  exact ⟨rfl, hk0.trans hk (by simp)⟩

set_option maxHeartbeats 1000000 in
theorem of_any (r : Int) (w : World) (ht : Tabs w) :
    Calls Tryz.prog 82 #[.int .i32 r] w fun e w' => e = .returned (.int .i64 (ofI r)) ∧ Kept [] w w' := by
  have hp := printed_any r w
  have hm := isMark_any r w ht
  have hw := hide (fun w1 hk => isWide_any r w1 (ht.kept hk) : ∀ w1, Kept [] w w1 → _)
  have hR : ofI r = if printedI r = true then (if inT marksT r = true then 0 else if inT wideT r = true then 2 else 1) else -1 := rfl
  generalize ofI r = R at *
  generalize printedI r = p at *
  generalize inT marksT r = m at *
  generalize inT wideT r = d at *
  clear ht
  have hR' := hide hR
  clear hR
  cases p
  · go_enter Tryz.func82, Tryz.ntmps82
    go_wp2_with (go_at_call 89; refine hp.mono ?_; rintro e w1 ⟨rfl, rfl⟩)
    go_ret
    exact ⟨ret_int hR'.out.symm, Kept.refl _ _⟩
  · cases m
    · cases d
      · go_enter Tryz.func82, Tryz.ntmps82
        go_wp2_with (first | (go_at_call 89; refine hp.mono ?_; rintro e w1 ⟨rfl, rfl⟩) | (go_at_call 90; refine hm.mono ?_; rintro e w2 ⟨rfl, hk2⟩) | (go_at_call 91; refine (hw.out w2 hk2).mono ?_; rintro e w3 ⟨rfl, hk3⟩))
        go_ret
        exact ⟨ret_int hR'.out.symm, hk2.trans hk3 (by simp)⟩
      · go_enter Tryz.func82, Tryz.ntmps82
        go_wp2_with (first | (go_at_call 89; refine hp.mono ?_; rintro e w1 ⟨rfl, rfl⟩) | (go_at_call 90; refine hm.mono ?_; rintro e w2 ⟨rfl, hk2⟩) | (go_at_call 91; refine (hw.out w2 hk2).mono ?_; rintro e w3 ⟨rfl, hk3⟩))
        go_ret
        exact ⟨ret_int hR'.out.symm, hk2.trans hk3 (by simp)⟩
    · go_enter Tryz.func82, Tryz.ntmps82
      go_wp2_with (first | (go_at_call 89; refine hp.mono ?_; rintro e w1 ⟨rfl, rfl⟩) | (go_at_call 90; refine hm.mono ?_; rintro e w2 ⟨rfl, hk2⟩))
      go_ret
      exact ⟨ret_int hR'.out.symm, hk2⟩
end Go.Proofs.YtnkddhmhjnhgcaaGreatDoor
namespace Go.Proofs.YtnkddhmhjnhgcaaGreatDoor
open Go.ChangeShapes Go.WideShapes Go.ChangeAt Go.RowKit
set_option linter.unusedVariables false

/-- A table of pairs as a row lists it. -/
def pairsData {H : Type} (T : List (Int × Int)) : DataW H := .agg (T.map fun x => .agg [.lit (.int .i32 x.1), .lit (.int .i32 x.2)])

theorem pairs_of_trod {H : Type} {enc : TypeId × Value → H} {P : Program} {w : World} {base : Nat} {sp : Nat → Bool} {held : Bool} {fuel : Nat} {t e f : TypeId} {n : Nat} {cs : List Value} {T : List (Int × Int)} {p : List MemPlace}
    (ht : P.underlying t = some (.array n e)) (he : P.underlying e = some (.array 2 f)) (hf : P.underlying f = some (.int .i32)) (hce : P.cellsOf e = 2) (hcf : P.cellsOf f = 1)
    (h : DataW.trod enc P w base sp held fuel t cs = some (pairsData T, p)) : ∀ i, i < T.length → cs[i * 2]? = some (.int .i32 (T.getD i (0, 0)).1) ∧ cs[i * 2 + 1]? = some (.int .i32 (T.getD i (0, 0)).2) := by
  obtain ⟨xs, m, rfl, hx, _, hxl, hel⟩ := DataW.trod_array ht h
  have hxs : xs.map (·.1) = T.map fun x => (DataW.agg [.lit (.int .i32 x.1), .lit (.int .i32 x.2)] : DataW H) := by
    have := congrArg Prod.fst hx
    simpa [pairsData] using this.symm
  have hTl : T.length = n := by
    have := congrArg List.length hxs
    simp at this
    omega
  intro i hi
  have h1 := hel i (by omega)
  have hix : i < xs.length := by omega
  rw [List.getElem?_eq_getElem hix, hce] at h1
  have h2 : xs[i].1 = .agg [.lit (.int .i32 T[i].1), .lit (.int .i32 T[i].2)] := by
    have := congrArg (·[i]?) hxs
    simpa [List.getElem?_eq_getElem hix, List.getElem?_eq_getElem hi] using this
  obtain ⟨ys, m2, rfl, hy, _, hyl, hel2⟩ := DataW.trod_array he h1
  rw [hy] at h2
  simp only [DataW.agg.injEq] at h2
  have g0 := hel2 0 (by omega)
  have g1 := hel2 1 (by omega)
  rw [hcf] at g0 g1
  rw [List.getD_eq_getElem?_getD, List.getElem?_eq_getElem hi]
  match ys, hyl, h2, g0, g1 with
  | [y0, y1], _, h2, g0, g1 =>
    simp only [List.map_cons, List.map_nil, List.cons.injEq] at h2
    obtain ⟨k0, e0, r0, _⟩ := DataW.trod_int hf g0
    obtain ⟨k1, e1, r1, _⟩ := DataW.trod_int hf g1
    have q0 : k0 = T[i].1 := by have := h2.1; rw [r0] at this; simpa using this
    have q1 : k1 = T[i].2 := by have := h2.2.1; rw [r1] at this; simpa using this
    subst q0 q1
    have z0 := congrArg (·[0]?) e0
    have z1 := congrArg (·[0]?) e1
    simp [List.getElem?_drop] at z0 z1
    exact ⟨z0, z1⟩

theorem gMarks : Tryz.prog.globalNamed "scrollback/width.marks" = some 0 := by kernel_rfl
theorem gWide : Tryz.prog.globalNamed "scrollback/width.wide" = some 1 := by kernel_rfl
theorem tMarks : (Tryz.prog.globals[0]?).map (·.type) = some 127 := by kernel_rfl
theorem tWide : (Tryz.prog.globals[1]?).map (·.type) = some 128 := by kernel_rfl
theorem cPair : Tryz.prog.cellsOf 126 = 2 := by kernel_rfl
theorem cRune : Tryz.prog.cellsOf 21 = 1 := by kernel_rfl

theorem tabs_of_laid {W : World} (h0 : laidMetH Tryz.prog [("scrollback/width.marks", Rows.laid_scrollback_width_marks), ("scrollback/width.wide", Rows.laid_scrollback_width_wide)] W) : Tabs W := by
  have h : laidMet Tryz.prog [("scrollback/width.marks", pairsData marksT), ("scrollback/width.wide", pairsData wideT)] W := h0
  obtain ⟨ps, ⟨g0, t0, cs0, f0, p0, q0, hg0, ht0, hv0, hd0, ⟨g1, t1, cs1, f1, p1, q1, hg1, ht1, hv1, hd1, _, _⟩, _⟩, _, _⟩ := h
  obtain rfl := Option.some.inj (gMarks.symm.trans hg0)
  obtain rfl := Option.some.inj (gWide.symm.trans hg1)
  obtain rfl := Option.some.inj (tMarks.symm.trans ht0)
  obtain rfl := Option.some.inj (tWide.symm.trans ht1)
  have a0 := pairs_of_trod Tryz.underlying127 Tryz.underlying126 Tryz.underlying21 cPair cRune hd0
  have a1 := pairs_of_trod Tryz.underlying128 Tryz.underlying126 Tryz.underlying21 cPair cRune hd1
  refine ⟨fun i hi => ?_, fun i hi => ?_⟩
  · rw [World.var?_cell hg0 hv0, World.var?_cell hg0 hv0]
    simpa using a0 i hi
  · rw [World.var?_cell hg1 hv1, World.var?_cell hg1 hv1]
    simpa using a1 i hi
end Go.Proofs.YtnkddhmhjnhgcaaGreatDoor
