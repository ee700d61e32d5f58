/- The reference's Of; Same of equal tables. -/
import Derived.Test.YtpeedjknjjbabaaDoorWidIn
import Derived.Laws.StructEq
namespace Go.Proofs.YtpeedjknjjbabaaDoor
open Go.RowKit
set_option linter.unusedVariables false

theorem NewT.tab {w w' : World} {T : List (Int × Int)} {e : Ending} (h : NewT w T e w') : ∃ b, e = .returned (.slice (some ⟨b, 0, none⟩) T.length T.length) ∧ w.heap.size ≤ b ∧ TabAt w' b T ∧ Kept [] w w' := by
  obtain ⟨b, cur, E, he, hb, hg, hc, hk⟩ := h
  exact ⟨b, he, hb, TabAt.of_heap hg hc, hk⟩

set_option maxHeartbeats 1000000 in
theorem rof_any (r : Int) (w : World) :
    Calls Tryd.prog 60 #[.int .i32 r] w fun e w' => e = .returned (.int .i64 (ofI r)) ∧ Kept [] w w' := by
  have hp := rprinted_any r w
  have hM := (rMarks_any w).mono fun _ _ h => h.tab
  have hW := hide fun w1 => (rWide_any w1).mono fun _ _ h => h.tab
  have hm := hide fun b w1 (h : TabAt w1 b marksT) => rin_any marksT b marksT.length r w1 (by decide) h
  have hd := hide fun b w1 (h : TabAt w1 b wideT) => rin_any wideT b wideT.length r w1 (by decide) h
  have hR : ofI r = if printedI r = true then (if inT marksT r = true then 0 else if inT wideT r = true then 2 else 1) else -1 := rfl
  rw [marks_len] at *
  rw [wide_len] at *
  generalize ofI r = R at *
  generalize printedI r = p at *
  generalize inT marksT r = m at *
  generalize inT wideT r = d at *
  have hR' := hide hR
  clear hR
  cases p
  · go_enter Tryd.func60, Tryd.ntmps60
    go_wp2_with (go_at_call 67; refine hp.mono ?_; rintro e w1 ⟨rfl, rfl⟩)
    go_ret
    exact ⟨ret_int hR'.out.symm, Kept.refl _ _⟩
  · cases m
    · cases d
      all_goals
        go_enter Tryd.func60, Tryd.ntmps60
        go_wp2_with (first
          | (go_at_call 67; refine hp.mono ?_; rintro e w1 ⟨rfl, rfl⟩)
          | (go_at_call 69; refine hM.mono ?_; rintro e w2 ⟨b2, rfl, _, hb2, hk2⟩)
          | (go_at_call 70; refine (hW.out w2).mono ?_; rintro e w3 ⟨b3, rfl, _, hb3, hk3⟩)
          | (go_at_call 68; refine (hd.out b3 w3 hb3).mono ?_; rintro e w4 ⟨rfl, rfl⟩)
          | (go_at_call 68; refine (hm.out b2 w2 hb2).mono ?_; rintro e w4 ⟨rfl, rfl⟩))
        go_ret
        exact ⟨ret_int hR'.out.symm, hk2.trans hk3 (by simp)⟩
    · go_enter Tryd.func60, Tryd.ntmps60
      go_wp2_with (first
        | (go_at_call 67; refine hp.mono ?_; rintro e w1 ⟨rfl, rfl⟩)
        | (go_at_call 69; refine hM.mono ?_; rintro e w2 ⟨b2, rfl, _, hb2, hk2⟩)
        | (go_at_call 68; refine (hm.out b2 w2 hb2).mono ?_; rintro e w4 ⟨rfl, rfl⟩))
      go_ret
      exact ⟨ret_int hR'.out.symm, hk2⟩
end Go.Proofs.YtpeedjknjjbabaaDoor
