/- A map from numbers to lines, of the call's own. -/
import Derived.Test.YtnkddhmhjnhgcaaDoorRnLaw2
import Derived.Maps.OwnOps
import Derived.Maps.Views
namespace Go.Proofs.YtnkddhmhjnhgcaaDoor
open Go.RowKit
open Go.Maps (Keyed)
set_option linter.unusedVariables false
set_option maxRecDepth 100000

def lvV (v : LnA) : Value := .agg #[.slice v.a v.n v.c, .bool v.s]
def RV (v : Value) : Option (DataW Value × List MemPlace) := some (.held v, [])
def zLn : LnA := ⟨none, 0, 0, false⟩
/-- At block b lies a map of at most n lines, which reads as M. -/
def MapL (w : World) (b n : Nat) (M : Int → LnA) : Prop := ∃ D : DataW Value, w.ownsMap Tryd.prog 3 RV b n D ∧ Go.Maps.IsMap D ∧ ∀ k, (Lit.int .i64 k).wf = true → D.atKey (.int .i64 k) (.held (lvV zLn)) = .held (lvV (M k))
theorem wf64 {k : Int} (h : -9223372036854775808 ≤ k ∧ k ≤ 9223372036854775807) : (Lit.int .i64 k).wf = true := by
  simp [Lit.wf, IntKind.min, IntKind.max, IntKind.signed, IntKind.bits]
  omega
section
variable {w w' : World} {b n : Nat} {M : Int → LnA}
theorem MapL.kept {S : List Nat} (h : MapL w b n M) (hk : Kept S w w') (hb : b ∉ S) : MapL w' b n M := by
  obtain ⟨D, ⟨es, clock, h1, F, hs, hD⟩, hm, h2⟩ := h
  exact ⟨D, ⟨es, clock, hk.heap h1 hb, F, hs, hD⟩, hm, h2⟩
theorem MapL.made (w : World) : MapL (w.alloc (.map #[] 0)) w.heap.size 0 (fun _ => zLn) :=
  ⟨.map [], World.ownsMap_made w _ _ _, ⟨[], rfl⟩, fun k _ => WideAt.atKey_none _ (by simp)⟩
theorem MapL.lt (h : MapL w b n M) : b < w.heap.size := by
  obtain ⟨D, h1, _⟩ := h
  exact h1.lt
theorem MapL.look (h : MapL w b n M) (k : Int) (hk : (Lit.int .i64 k).wf = true) : (Instr.lookup 41 (.map (some b)) (.int .i64 k) false).run Tryd.prog w = .ok (lvV (M k)) w := by
  obtain ⟨D, h1, _, h2⟩ := h
  obtain ⟨v, ps, hrun, hv⟩ := h1.lookup (Go.Maps.int_keyed Tryd.underlying3) Tryd.underlying41 (Tryd.zeroValue31 w) (zd := .held (lvV zLn)) (zp := []) rfl (Go.Maps.keyOf_int_mk Tryd.underlying3 hk)
  rw [h2 k hk] at hv
  unfold RV at hv
  injection hv with hv
  injection hv with hv _
  injection hv with hv
  rw [hrun, hv]
end
theorem wpList_mapL {w : World} {b n : Nat} {M : Int → LnA} {ops : Array Oper} {rest : List Oper} {o : Oper} {a : Act} {Q : Exit → Act → World → Prop}
    (hg : o.guard = none) (m x v : Operand) (hop : o.op = Op.mapUpdate 41 m x v) (hm : a.eval m = .map (some b)) (h : MapL w b n M) (hn : n < maxLen) (k : Int) (hk : (Lit.int .i64 k).wf = true) (hx : a.eval x = .int .i64 k) (u : LnA) (hv : a.eval v = lvV u)
    (hK : ∀ w', MapL w' b (n + 1) (fun j => if j = k then u else M j) → Kept [b] w w' → wpList Tryd.prog ops Q rest (a.put o.dst undef) w') :
    wpList Tryd.prog ops Q (o :: rest) a w := by
  obtain ⟨D, h1, h2, h3⟩ := h
  refine wpList_mapUpdate_own w hg m x v _ hop 3 31 (Go.Maps.int_keyed Tryd.underlying3) Tryd.underlying41 RV b n D hm h1 hn (.int .i64 k) (lvV u) (.int .i64 k) hx hv (Go.Maps.keyOf_int_mk Tryd.underlying3 hk) (.held (lvV u)) [] rfl ?_
  intro w' g1 g2
  refine hK w' ⟨_, g1, ?_, fun j hj => ?_⟩ ((Kept.refl [b] w).grown g2 (fun y hy => .inl (by cases hy; simp)))
  · obtain ⟨es, rfl⟩ := h2
    exact ⟨_, rfl⟩
  · by_cases e : j = k
    · subst e
      rw [Go.Maps.atKey_put_same h2 (by trivial)]
      simp
    · rw [Go.Maps.atKey_put_other (by intro h; injection h with _ h; exact e h)]
      simp only [if_neg e]
      exact h3 j hj
end Go.Proofs.YtnkddhmhjnhgcaaDoor
