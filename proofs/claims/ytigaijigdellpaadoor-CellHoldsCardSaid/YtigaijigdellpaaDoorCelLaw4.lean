/- The walk of CellRows. -/
import Derived.Test.YtigaijigdellpaaDoorCelLaw1
import Derived.Test.YtigaijigdellpaaDoorCelRr
import Derived.Test.YtigaijigdellpaaDoorCelRf
import Derived.Test.YtigaijigdellpaaDoorCelTs
namespace Go.Proofs.YtigaijigdellpaaDoor
open Go.RowKit
set_option linter.unusedVariables false
set_option linter.unusedSimpArgs false

theorem str_neq (t : ByteArray) (w : World) : (binOp .neq 9 (.string t) (.string t)).run Tryd.prog w = .ok (.bool false) w := by
  first
    | (simp [binOp, Op.equal, Op.maxDepth, Op.equalIn, run_underlying Tryd.underlying9]; done)
    | (simp [binOp, Op.stringOp]; done)
    | go_simp
theorem same_true (a : Option Addr) (n c : Nat) (l : List Cl) (a2 : Option Addr) (n2 c2 : Nat) (w : World) (hr : Rd w a n 16 (cellsV l)) (hr2 : Rd w a2 n2 16 (cellsV l)) (hn : n ≤ 1000) :
    Calls Tryd.prog 27 #[.slice a n c, .slice a2 n2 c2] w fun e w' => e = .returned (.bool true) ∧ Kept [] w w' := by
  have h := Same_any a n c l a2 n2 c2 l w hr hr2 hn
  rw [decide_eq_true rfl] at h
  exact h

theorem CellRows_long (KN : KnownIs) (a : Option Addr) (n cp : Nat) (hn : 40 < n) (w : World) (ht : Tabs w) : Calls Tryd.prog 6 #[.slice a n cp] w fun e w' => e = .returned (.bool true) ∧ Kept [] w w' := by
  have hKN := hide (KN _ ht)
  have hnz : (40 : Int) < (n : Int) := by omega
  go_enter Tryd.func6, Tryd.ntmps6
  go_wp2_with fail
  refine hKN.out.mono ?_
  rintro e w1 ⟨rfl, hk1⟩
  go_wp2_with fail
  go_ret
  exact ⟨rfl, hk1⟩

set_option maxHeartbeats 2000000 in
theorem CellRows_walk (KN : KnownIs) (a : Option Addr) (n cp : Nat) (l : List Cl) (hn : n ≤ 40) (w : World) (ht : Tabs w) (hr : Rd w a n 16 (cellsV l)) : Calls Tryd.prog 6 #[.slice a n cp] w fun e w' => e = .returned (.bool true) ∧ Kept [] w w' := by
  have hT := hide (fun w1 (hk : Kept [] w w1) => ht.kept hk)
  have hKN := hide KN
  have hH := hide hr
  have hnz : (n : Int) ≤ 40 := by omega
  clear ht KN
  go_enter Tryd.func6, Tryd.ntmps6
  go_upto_region 3 with fail
  go_upto_region 4 with (at_builtin; refine wpList_app ?_ rfl elCell rfl rfl (Own.nil w w.heap.size 30 16) rfl hr (cellsV_one l) (by omega) (by omega); intro a1 c1 w1 ho1' hk1' hat1)
  clear hr
  rw [List.nil_append, Nat.zero_add] at ho1'
  try rw [Nat.zero_add]
  have ho1 := hide ho1'
  have hk1 : Hid (Kept [] w w1) := hide hk1'
  clear ho1' hk1' hat1
  have hRow := hide (Row_any a1 n c1 l w1 (hT.out _ hk1.out) ho1.out.rd (by omega))
  have hRR := hide (fun w1 hr1 => rRow_any a n cp l w1 hr1 (by omega))
  have hTx := hide (fun w1 hr1 => Texts_any a1 n c1 l w1 hr1 (by omega))
  have hRT := hide (fun w1 hr1 => rTexts_any a n cp l w1 hr1 (by omega))
  have hFx := hide (fun w1 hr1 => Fix_any a1 n c1 l w1 hr1 (by omega))
  have hRF := hide (fun w1 hr1 => rFix_any a n cp l w1 hr1 (by omega))
  have hst := str_neq (textsB l)
  generalize rowI l = v at *
  generalize textsB l = t at *
  go_wp2_with fail
  refine hRow.out.mono ?_
  rintro e w2 ⟨rfl, j2⟩
  have s2 := j2.size
  have k2 := hide (hk1.out.trans j2 (by simp))
  have o2 := hide (ho1.out.kept j2 (by simp))
  have r2 := hH.out.kept k2.out (by simp)
  clear hRow j2
  go_wp2_with fail
  refine (hRR.out w2 r2).mono ?_
  rintro e w3 ⟨rfl, j3⟩
  have s3 := Nat.le_trans s2 j3.size
  have k3 := hide (k2.out.trans j3 (by simp))
  have o3 := hide (o2.out.kept j3 (by simp))
  clear r2 k2 o2 j3 hRR
  have hvv : (v != v) = false := by simp
  go_wp2_with fail
  refine (hTx.out w3 o3.out.rd).mono ?_
  rintro e w4 ⟨rfl, j4⟩
  have s4 := Nat.le_trans s3 j4.size
  have k4 := hide (k3.out.trans j4 (by simp))
  have o4 := hide (o3.out.kept j4 (by simp))
  have r4 := hH.out.kept k4.out (by simp)
  clear k3 o3 j4 hTx
  go_wp2_with fail
  refine (hRT.out w4 r4).mono ?_
  rintro e w5 ⟨rfl, j5⟩
  have s5 := hide (Nat.le_trans s4 j5.size)
  have k5 := hide (k4.out.trans j5 (by simp))
  have o5 := hide (o4.out.kept j5 (by simp))
  clear r4 k4 o4 j5 hRT s2 s3 s4
  go_wp2_with fail
  refine (hFx.out w5 o5.out.rd).mono ?_
  rintro e w6 ⟨a2, c2, rfl, x6', j6⟩
  have x6 := hide x6'
  have k6 := hide (k5.out.trans j6 (by simp))
  have o6 := hide (o5.out.kept j6 (by simp))
  have r6 := hH.out.kept k6.out (by simp)
  have hb5 := hide (k5.out.size)
  have hlt1 := hide (fun g hg => (ho1.out.ge g hg).2)
  clear x6' j6 hFx
  go_wp2_with fail
  refine (hRF.out w6 r6).mono ?_
  rintro e w7 ⟨a3, c3, rfl, y7', j7⟩
  have y7 := hide y7'
  have k7 := hide (k6.out.trans j7 (by simp))
  have o7 := hide (o6.out.kept j7 (by simp))
  have x7 := hide (x6.out.kept j7 (by simp))
  have hS7 := hide (same_true a2 n c2 (fixI l) a3 n c3 w7 x7.out.rd y7.out.rd (by omega))
  clear y7' j7 r6 k6 o6 x6
  go_wp2_with fail
  refine hS7.out.mono ?_
  rintro e w8 ⟨rfl, j8⟩
  have k8 := hide (k7.out.trans j8 (by simp))
  have o8 := hide (o7.out.kept j8 (by simp))
  have x8 := hide (x7.out.kept j8 (by simp))
  have hSt := hide (Stain_any a2 n c2 w5.heap.size (fixI l) w8 x8.out (by omega))
  have hx := hide (fun g hg => (x8.out.ge g hg).1)
  clear j8 k7 o7 x7 y7 hS7
  go_wp2_with fail
  refine hSt.out.mono ?_
  rintro e w9 ⟨rfl, j9⟩
  have k9 := hide (k8.out.trans j9 (fun g hg => .inr (Nat.le_trans hb5.out (hx.out g hg))))
  have o9 := hide (o8.out.kept j9 (fun g hg hg2 => by have h1 := hlt1.out g hg; have h2 := hx.out g hg2; have := s5.out; omega))
  have hS9 := hide (same_true a1 n c1 l a n cp w9 o9.out.rd (hH.out.kept k9.out (by simp)) (by omega))
  clear j9 k8 o8 x8 hSt
  go_wp2_with fail
  refine hS9.out.mono ?_
  rintro e w10 ⟨rfl, j10⟩
  have k10 := hide (k9.out.trans j10 (by simp))
  go_wp2_with fail
  refine (hKN.out _ (hT.out _ k10.out)).mono ?_
  rintro e w11 ⟨rfl, j11⟩
  go_wp2_with fail
  go_ret
  exact ⟨rfl, k10.out.trans j11 (by simp)⟩
end Go.Proofs.YtigaijigdellpaaDoor
