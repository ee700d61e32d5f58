/- Appending a run; cloning runs; comparing lists of runs. -/
import Derived.Test.YtpdjlollijbdeaaDoorPakLeaf
import Derived.Lib.SliceRun
import Derived.BigRegion
namespace Go.Proofs.YtpdjlollijbdeaaDoor
open Go.RowKit
set_option linter.unusedVariables false
set_option maxRecDepth 10000

def AppRet (base : Nat) (w : World) (a : Option Addr) (l : List Ru) (e : Ending) (w' : World) : Prop :=
  ∃ a' n' c', e = .returned (.slice a' n' c') ∧ Own w' base 67 a' n' c' 4 (runsV l) ∧ Kept (blk a) w w' ∧ ∀ g ∈ blk a', g ∈ blk a ∨ w.heap.size ≤ g

set_option maxHeartbeats 2000000 in
theorem appendRun_any (a : Option Addr) (n c base : Nat) (l : List Ru) (r : Ru) (w : World) (ho : Own w base 67 a n c 4 (runsV l)) (hI : ∀ q ∈ l, I64 (q.n + r.n)) (hn : n ≤ 1000000) (hbase : base ≤ w.heap.size) :
    Calls Tryd.prog 38 #[.slice a n c, .agg #[.int .i64 r.n, .int .u64 r.w.a, .int .u64 r.w.b, .int .u64 r.w.c]] w (AppRet base w a (addRun l r)) := by
  have hl := ho.rd.runs
  obtain ⟨W0, hW0⟩ : ∃ z : World, z = w.alloc (.cells #[.int .i64 r.n, .int .u64 r.w.a, .int .u64 r.w.b, .int .u64 r.w.c] 67) := ⟨_, rfl⟩
  have hk0 : Kept [] w W0 := by rw [hW0]; exact (Kept.refl [] w).alloc _
  have hr0 : RunIn W0 w.heap.size r := by rw [hW0]; exact RunIn.new w r
  have ho0 := ho.kept hk0 (by simp)
  have hb0 : base ≤ W0.heap.size := by have := hk0.size; omega
  have hge := hide ho.ge
  match n, l, hl with
  | 0, [], _ =>
    obtain ⟨s0, s1, s2, s3⟩ := hr0.at
    go_enter Tryd.func38, Tryd.ntmps38
    go_upto_region 1 with fail
    rw [← hW0]
    clear hW0
    go_upto_region 2 with fail
    go_quiet (fail)
    have hh := hide (ho0.kept (((Kept.refl [] W0).drewN nq).alloc (.cells #[.int .i64 r.n, .int .u64 r.w.a, .int .u64 r.w.b, .int .u64 r.w.c] 67)) (by simp))
    have hr' : Hid (Rd ((W0.drewN nq).alloc (.cells #[.int .i64 r.n, .int .u64 r.w.a, .int .u64 r.w.b, .int .u64 r.w.c] 67)) (some ⟨W0.heap.size, 0, none⟩) 1 4 (runsV [r])) := hide (Rd.ofBlock rowRun (heap_alloc_new (W0.drewN nq) _) rfl)
    go_wp2_with (at_builtin; refine wpList_app ?_ rfl elRun rfl rfl hh.out rfl hr'.out (rowsV_oneCell rowRun _) ?o2 ?o3; intro a' c' w2 ho2 hk2 hat2)
    case o2 => omega
    case o3 => simp; omega
    go_ret
    refine ⟨a', 1, c', rfl, ?_, ?_, ?_⟩
    · simpa [runsV, rowsV, addRun] using ho2
    · exact (((hk0.drewN _).alloc _).mono (by simp)).trans hk2 (by intro x hx; exact .inl hx)
    · intro x hx
      rcases hat2 x hx with h1 | h1
      · exact .inl h1
      · right
        have h2 : W0.heap.size + 1 ≤ x := by simpa using h1
        have := hk0.size
        omega
  | m + 1, l, hl =>
    have hml : m < l.length := by omega
    obtain ⟨g, rfl, _⟩ := ho.form (by omega)
    have hglt := (ho.ge g (by simp [blk])).2
    have hrm := run_at (ho0.rd.row rowRun m hml)
    rw [Nat.zero_add] at hrm
    obtain ⟨q0, q1, q2, q3⟩ := hrm
    have hm0 : (0 : Int) < (m : Int) + 1 := by omega
    have hg1 : decide ((0 : Int) < (m : Int) + 1) = true := decide_eq_true hm0
    by_cases he0 : l[m].w = r.w
    · have hq : ∀ w, (binOp .eql 34 (.agg #[.int .u64 l[m].w.a, .int .u64 l[m].w.b, .int .u64 l[m].w.c]) (.agg #[.int .u64 r.w.a, .int .u64 r.w.b, .int .u64 r.w.c])).run Tryd.prog w = .ok (.bool true) w := fun w => (eql_W _ _ w).trans (by rw [decide_eq_true he0])
      obtain ⟨s0, s1, s2, s3⟩ := hr0.at
      have he := hide he0
      have hout := hide (add_eq l r m hl he0)
      clear he0
      go_enter Tryd.func38, Tryd.ntmps38
      go_upto_region 1 with fail
      rw [← hW0]
      clear hW0
      go_upto_region 2 with fail
      go_quiet (fail)
      have hwr : IntKind.i64.wrap (l[m].n + r.n) = l[m].n + r.n := by
        have := hI l[m] (List.getElem_mem hml)
        rw [IntKind.wrap_i64]
        obtain ⟨h1, h2⟩ := this
        omega
      have hfr := (ho0.cellAt rowRun (i := m) (j := 0) hml rfl).2
      rw [Nat.add_zero] at hfr
      go_upto_region 3 with fail
      go_region
      have hown := hide ((ho0.kept ((Kept.refl [] W0).drewN (nq + 1)) (by simp)).setAt rowRun hml (j := 0) (v := .int .i64 (l[m].n + r.n)) (d := ⟨l[m].n + r.n, l[m].w⟩) (by decide) rfl)
      go_wp2_with fail
      go_ret
      refine ⟨some ⟨g, 0, none⟩, m + 1, c, rfl, ?_, ?_, fun x hx => .inl hx⟩
      · rw [hout.out]; exact hown.out
      · exact ((hk0.drewN _).mono (by simp)).setCell (.inl (by simp [blk])) _
    · have hq : ∀ w, (binOp .eql 34 (.agg #[.int .u64 l[m].w.a, .int .u64 l[m].w.b, .int .u64 l[m].w.c]) (.agg #[.int .u64 r.w.a, .int .u64 r.w.b, .int .u64 r.w.c])).run Tryd.prog w = .ok (.bool false) w := fun w => (eql_W _ _ w).trans (by rw [decide_eq_false he0])
      obtain ⟨s0, s1, s2, s3⟩ := hr0.at
      have hout := hide (add_ne l r (by rw [last_at hl]; simpa using he0))
      have hml' := hide hml
      clear he0
      go_enter Tryd.func38, Tryd.ntmps38
      go_upto_region 1 with fail
      rw [← hW0]
      clear hW0
      go_upto_region 2 with fail
      go_quiet (fail)
      have hh := hide (ho0.kept (((Kept.refl [] W0).drewN nq).alloc (.cells #[.int .i64 r.n, .int .u64 r.w.a, .int .u64 r.w.b, .int .u64 r.w.c] 67)) (by simp))
      have hr' : Hid (Rd ((W0.drewN nq).alloc (.cells #[.int .i64 r.n, .int .u64 r.w.a, .int .u64 r.w.b, .int .u64 r.w.c] 67)) (some ⟨W0.heap.size, 0, none⟩) 1 4 (runsV [r])) := hide (Rd.ofBlock rowRun (heap_alloc_new (W0.drewN nq) _) rfl)
      go_wp2_with (at_builtin; refine wpList_app ?_ rfl elRun rfl rfl hh.out rfl hr'.out (rowsV_oneCell rowRun _) ?o2 ?o3; intro a' c' w2 ho2 hk2 hat2)
      case o2 => omega
      case o3 => simp; omega
      go_ret
      refine ⟨a', m + 1 + 1, c', rfl, ?_, ?_, ?_⟩
      · rw [hout.out]
        have := ho2
        rwa [show runsV l ++ runsV [r] = runsV (l ++ [r]) from (rowsV_app _ _).symm] at this
      · exact (((hk0.drewN _).alloc _).mono (by simp)).trans hk2 (by intro x hx; exact .inl hx)
      · intro x hx
        rcases hat2 x hx with h1 | h1
        · exact .inl h1
        · right
          have h2 : W0.heap.size + 1 ≤ x := by simpa using h1
          have := hk0.size
          omega
end Go.Proofs.YtpdjlollijbdeaaDoor
