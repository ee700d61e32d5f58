/- Layer 8: on lists: how many pages there are; what is there when letters were pushed. -/
import Derived.Test.YtnkddhmhjnhgcaaDoorRnAll
namespace Go.Proofs.YtnkddhmhjnhgcaaDoor
set_option linter.unusedVariables false

theorem sum_zero {places : Nat} : ∀ (p : Pa) (ps : List Pa), fullP places (p :: ps) → p.gone = 0 → ps.length * places + 1 ≤ sumP (p :: ps)
  | p, [], h, _ => by
    have := h.1
    rw [sumP_cons]
    simp
    omega
  | p, q :: ps, h, hg => by
    have ih := sum_zero q ps h.2.2.2 h.2.2.1
    have e := h.2.1
    rw [sumP_cons, List.length_cons, Nat.add_mul]
    omega
/-- There are at most two pages more than the limit divided by the places of a page. -/
theorem pages_lim {r : Rg} (h : rgOk r) : r.ps.length ≤ r.limit / r.places + 2 := by
  have hf := h.full
  have hs := h.sum
  have hl := h.le
  generalize r.ps = ps at *
  match ps, hf with
  | [], _ => simp
  | [p], _ => simp
  | p :: q :: qs, hf =>
    have := sum_zero q qs hf.2.2.2 hf.2.2.1
    rw [sumP_cons] at hs
    have : qs.length ≤ r.limit / r.places := (Nat.le_div_iff_mul_le h.p1).2 (by omega)
    simp
    omega
def letter (k : Nat) : Ln := ⟨[runeC (97 + ((k % 26 : Nat) : Int))], false⟩
def Lr (lo n : Nat) : List Ln := (List.range' lo n).map letter
theorem letter_ok (k : Nat) : validL (letter k).l = true := by
  have h : ∀ q, q < 26 → validL [runeC (97 + ((q : Nat) : Int))] = true := by decide +kernel
  exact h _ (Nat.mod_lt _ (by decide))
theorem Lr_len (lo n : Nat) : (Lr lo n).length = n := by simp [Lr]
theorem Lr_succ (lo n : Nat) : Lr lo (n + 1) = Lr lo n ++ [letter (lo + n)] := by
  unfold Lr
  rw [List.range'_1_concat, List.map_append]
  rfl
theorem Lr_drop (lo n d : Nat) : (Lr lo n).drop d = Lr (lo + d) (n - d) := by
  unfold Lr
  rw [← List.map_drop, List.drop_range', Nat.mul_one]
theorem evict_is8 : ∀ (m : Nat) (r : Rg), (evictN m r).limit = r.limit ∧ (evictN m r).places = r.places ∧ (evictN m r).first = r.first + m ∧ (evictN m r).ls = r.ls.drop m
  | 0, r => ⟨rfl, rfl, rfl, rfl⟩
  | m + 1, r => by
    obtain ⟨h1, h2, h3, h4⟩ := evict_is8 m r.one
    refine ⟨h1, h2, ?_, ?_⟩
    · rw [show evictN (m + 1) r = evictN m r.one from rfl, h3]; show r.first + 1 + m = _; omega
    · rw [show evictN (m + 1) r = evictN m r.one from rfl, h4]; show (r.ls.drop 1).drop m = _; rw [List.drop_drop, Nat.add_comm]
/-- After k letters: the last ones, as many as the limit allows. -/
def LongIs (M P k : Nat) (r : Rg) : Prop := r.limit = M ∧ r.places = P ∧ r.first = k - M ∧ r.ls = Lr (k - M) (min k M)
theorem LongIs.next {M P k : Nat} {r : Rg} (h : LongIs M P k r) : r.next = k := by
  unfold Rg.next
  rw [h.2.2.1, h.2.2.2, Lr_len]
  omega
theorem LongIs.push {M P k : Nat} {r : Rg} (h : LongIs M P k r) : (pushG r (letter k)).2 = 0 ∧ LongIs M P (k + 1) (pushG r (letter k)).1 := by
  unfold pushG
  rw [if_neg (by rw [letter_ok]; simp)]
  obtain ⟨h1, h2, h3, h4⟩ := h
  refine ⟨rfl, ?_⟩
  unfold Rg.evict
  obtain ⟨e1, e2, e3, e4⟩ := evict_is8 ((⟨r.limit, r.places, r.first, r.ls ++ [letter k], addP r.places r.ps⟩ : Rg).ls.length - (⟨r.limit, r.places, r.first, r.ls ++ [letter k], addP r.places r.ps⟩ : Rg).limit) ⟨r.limit, r.places, r.first, r.ls ++ [letter k], addP r.places r.ps⟩
  have hl : (r.ls ++ [letter k]) = Lr (k - M) (min k M + 1) := by rw [h4, Lr_succ]; congr 2; congr 1; omega
  refine ⟨e1.trans h1, e2.trans h2, e3.trans ?_, e4.trans ?_⟩
  · show r.first + ((r.ls ++ [letter k]).length - r.limit) = _
    rw [hl, Lr_len, h1, h3]
    omega
  · show (r.ls ++ [letter k]).drop ((r.ls ++ [letter k]).length - r.limit) = _
    rw [hl, Lr_len, h1, Lr_drop]
    congr 1 <;> omega
end Go.Proofs.YtnkddhmhjnhgcaaDoor
