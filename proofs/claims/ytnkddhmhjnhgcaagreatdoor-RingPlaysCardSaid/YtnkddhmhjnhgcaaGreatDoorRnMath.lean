/- Rings on pages, on lists: where a line lies; what becomes of the pages. Nothing of the program is used here. -/
import Derived.Test.YtnkddhmhjnhgcaaGreatDoorRgMath
set_option linter.unusedVariables false
namespace Go.Proofs.YtnkddhmhjnhgcaaGreatDoor

def paS (s : Sh) : Pa := ⟨s.gone, s.ls.length⟩
def lnsS (ss : List Sh) : List Ln := ss.flatMap (·.ls)
def goneS : List Sh → Nat
  | [] => 0
  | s :: _ => s.gone
theorem lnsS_cons (s : Sh) (ss : List Sh) : lnsS (s :: ss) = s.ls ++ lnsS ss := rfl
theorem lnsS_app (ss ts : List Sh) : lnsS (ss ++ ts) = lnsS ss ++ lnsS ts := by simp [lnsS]
theorem lnsS_len : ∀ ss : List Sh, (lnsS ss).length = sumP (ss.map paS)
  | [] => rfl
  | s :: ss => by rw [lnsS_cons, List.length_append, lnsS_len ss, List.map_cons, sumP_cons]; rfl
/-- Where a line lies: the page's index, and the line's on it. -/
theorem find_at {P : Nat} (hp : 1 ≤ P) : ∀ (ss : List Sh) (j : Nat), fullP P (ss.map paS) → j < (lnsS ss).length →
    ∃ (k i : Nat) (s : Sh), ss[k]? = some s ∧ (j + goneS ss) / P = k ∧ (j + goneS ss) % P = s.gone + i ∧ i < s.ls.length ∧ (lnsS ss)[j]? = s.ls[i]? ∧ j = (lnsS (ss.take k)).length + i
  | [], j, _, hj => by simp [lnsS] at hj
  | s :: ss, j, hf, hj => by
    have h1 := (fullP_head hf).2
    have hg : (paS s).gone = s.gone := rfl
    have hn : (paS s).n = s.ls.length := rfl
    show ∃ (k i : Nat) (t : Sh), (s :: ss)[k]? = some t ∧ (j + s.gone) / P = k ∧ (j + s.gone) % P = t.gone + i ∧ _
    by_cases hlt : j < s.ls.length
    · refine ⟨0, j, s, rfl, Nat.div_eq_of_lt (by omega), by rw [Nat.mod_eq_of_lt (by omega)]; omega, hlt, ?_, by simp [lnsS]⟩
      rw [lnsS_cons, List.getElem?_append_left hlt]
    · cases ss with
      | nil => simp [lnsS] at hj; omega
      | cons q ss =>
        have hfl : s.gone + s.ls.length = P := hf.2.1
        have hq : q.gone = 0 := hf.2.2.1
        obtain ⟨k, i, t, e1, e2, e3, e4, e5, e6⟩ := find_at hp (q :: ss) (j - s.ls.length) hf.2.2.2 (by rw [lnsS_cons, List.length_append] at hj; omega)
        have eq : goneS (q :: ss) = 0 := hq
        rw [eq, Nat.add_zero] at e2 e3
        have ej : j + s.gone = (j - s.ls.length) + P := by omega
        refine ⟨k + 1, i, t, e1, ?_, ?_, e4, ?_, ?_⟩
        · rw [ej, Nat.add_div_right _ hp, e2]
        · rw [ej, Nat.add_mod_right, e3]
        · rw [lnsS_cons, List.getElem?_append_right (by omega), e5]
        · rw [List.take_succ_cons, lnsS_cons, List.length_append]
          omega
theorem lnsS_split (ss : List Sh) (k : Nat) (s : Sh) (h : ss[k]? = some s) : lnsS ss = lnsS (ss.take k) ++ (s.ls ++ lnsS (ss.drop (k + 1))) := by
  obtain ⟨hk, rfl⟩ := List.getElem?_eq_some_iff.1 h
  have e : ss = ss.take k ++ ss[k] :: ss.drop (k + 1) := by rw [List.getElem_cons_drop, List.take_append_drop]
  conv => lhs; rw [e]
  rw [lnsS_app, lnsS_cons]
theorem lnsS_set (ss : List Sh) (k i : Nat) (s s' : Sh) (x : Ln) (h : ss[k]? = some s) (hi : i < s.ls.length) (hs : s'.ls = s.ls.set i x) : lnsS (ss.set k s') = (lnsS ss).set ((lnsS (ss.take k)).length + i) x := by
  have hk := (List.getElem?_eq_some_iff.1 h).1
  have h2 : (ss.set k s')[k]? = some s' := by rw [List.getElem?_set_self hk]
  rw [lnsS_split _ k s' h2, lnsS_split ss k s h, List.take_set_of_le (Nat.le_refl _), List.drop_set_of_lt (by omega), hs, List.set_append_right _ _ (by omega), Nat.add_sub_cancel_left, List.set_append_left _ _ hi]
theorem paS_set (ss : List Sh) (k : Nat) (s s' : Sh) (h : ss[k]? = some s) (hs : paS s' = paS s) : (ss.set k s').map paS = ss.map paS := by
  obtain ⟨hk, rfl⟩ := List.getElem?_eq_some_iff.1 h
  rw [List.map_set, hs, ← List.getElem_map paS (h := by simpa using hk), List.set_getElem_self]
/-- Lines dropped from the first page. -/
theorem dropPs_lt : ∀ (d : Nat) (p : Pa) (ps : List Pa), d < p.n → dropPs d (p :: ps) = ⟨p.gone + d, p.n - d⟩ :: ps
  | 0, p, ps, _ => rfl
  | d + 1, p, ps, h => by
    rw [dropPs, dropP_cons, if_neg (by omega), dropPs_lt d _ ps (by show d < p.n - 1; omega)]
    show (⟨p.gone + 1 + d, p.n - 1 - d⟩ : Pa) :: ps = _
    rw [show p.gone + 1 + d = p.gone + (d + 1) by omega, show p.n - 1 - d = p.n - (d + 1) by omega]
theorem dropPs_all (p : Pa) (ps : List Pa) (h : 1 ≤ p.n) : dropPs p.n (p :: ps) = ps := by
  obtain ⟨m, hm⟩ : ∃ m, p.n = m + 1 := ⟨p.n - 1, by omega⟩
  rw [hm, dropPs_succ, dropPs_lt m p ps (by omega), dropP_cons, if_pos (by show p.n - m - 1 = 0; omega)]
theorem dropPs_add : ∀ (a b : Nat) (ps : List Pa), dropPs (a + b) ps = dropPs b (dropPs a ps)
  | 0, b, ps => by rw [Nat.zero_add]; rfl
  | a + 1, b, ps => by
    rw [show a + 1 + b = (a + b) + 1 by omega]
    show dropPs (a + b) (dropP ps) = dropPs b (dropPs a (dropP ps))
    exact dropPs_add a b (dropP ps)
theorem pa_drop (s : Sh) (ss : List Sh) (d : Nat) (s' : Sh) (hs : dropS s (d : Int) = (s', 0)) (hd : d ≤ s.ls.length) (h1 : 1 ≤ s.ls.length) :
    s' = ⟨s.places, s.gone + d, s.ls.drop d⟩ ∧ (s'.ls = [] → dropPs d ((s :: ss).map paS) = ss.map paS ∧ lnsS ss = (lnsS (s :: ss)).drop d) ∧ (s'.ls ≠ [] → dropPs d ((s :: ss).map paS) = (s' :: ss).map paS ∧ lnsS (s' :: ss) = (lnsS (s :: ss)).drop d) := by
  have e : s' = ⟨s.places, s.gone + d, s.ls.drop d⟩ := by
    unfold dropS at hs
    rw [if_neg (by omega)] at hs
    simpa using (congrArg Prod.fst hs).symm
  subst e
  refine ⟨rfl, fun h0 => ?_, fun h0 => ?_⟩
  · have hl : d = s.ls.length := by have := List.drop_eq_nil_iff.1 h0; omega
    refine ⟨?_, ?_⟩
    · rw [List.map_cons, hl]
      exact dropPs_all (paS s) _ h1
    · rw [lnsS_cons, List.drop_append_of_le_length (by omega), hl, List.drop_length, List.nil_append]
  · have hl : d < s.ls.length := by
      rcases Nat.lt_or_ge d s.ls.length with h | h
      · exact h
      · exact absurd (List.drop_eq_nil_iff.2 h) h0
    refine ⟨?_, ?_⟩
    · rw [List.map_cons, dropPs_lt d (paS s) _ hl, List.map_cons]
      simp [paS]
    · rw [lnsS_cons, lnsS_cons, List.drop_append_of_le_length (by omega)]
theorem evict_is (r : Rg) : r.evict = ⟨r.limit, r.places, r.first + (r.ls.length - r.limit), r.ls.drop (r.ls.length - r.limit), dropPs (r.ls.length - r.limit) r.ps⟩ := evictN_is _ r
theorem evict_le (r : Rg) (h : r.ls.length ≤ r.limit) : r.evict = r := by
  rw [evict_is, Nat.sub_eq_zero_of_le h]
  rfl
/-- A ring as it is between a push and its evictions. -/
structure rgW (r : Rg) : Prop where
  p1 : 1 ≤ r.places
  p2 : r.places ≤ 1024
  l2 : r.limit ≤ 1048576
  sum : sumP r.ps = r.ls.length
  full : fullP r.places r.ps
  val : ∀ x ∈ r.ls, validL x.l = true
theorem rgOk.w {r : Rg} (h : rgOk r) : rgW r := ⟨h.p1, h.p2, h.l2, h.sum, h.full, h.val⟩
theorem rgW.ok {r : Rg} (h : rgW r) (hl : r.ls.length ≤ r.limit) : rgOk r := ⟨h.p1, h.p2, h.l2, h.sum, h.full, h.val, hl⟩
theorem rgW.evict {r : Rg} (h : rgW r) : rgOk r.evict := evict_ok h.p1 h.p2 h.l2 h.sum h.full h.val
/-- So many lines dropped at the front. -/
theorem rgW.drop {r : Rg} (h : rgW r) (d : Nat) : rgW ⟨r.limit, r.places, r.first + d, r.ls.drop d, dropPs d r.ps⟩ :=
  ⟨h.p1, h.p2, h.l2, by rw [dropPs_sum d h.full, h.sum, List.length_drop], dropPs_full d h.full, fun x hx => h.val x (List.mem_of_mem_drop hx)⟩
theorem rgW.add {r : Rg} (h : rgW r) {x : Ln} (hx : validL x.l = true) : rgW ⟨r.limit, r.places, r.first, r.ls ++ [x], addP r.places r.ps⟩ := by
  refine ⟨h.p1, h.p2, h.l2, ?_, addP_full h.p1 h.full, fun y hy => ?_⟩
  · simp only [addP_sum, h.sum, List.length_append, List.length_cons, List.length_nil]
  · rcases List.mem_append.1 hy with hy | hy
    · exact h.val y hy
    · simp only [List.mem_singleton] at hy
      subst hy
      exact hx
end Go.Proofs.YtnkddhmhjnhgcaaGreatDoor
