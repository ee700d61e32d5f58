/- The chapter of rings on lists: a ring as the reference has it, and what becomes of it. Nothing of the program is used here. -/
import Derived.Test.YtnkddhmhjnhgcaaGreatDoorMaths
set_option linter.unusedVariables false
namespace Go.Proofs.YtnkddhmhjnhgcaaGreatDoor

/-- A page: how many of its places are gone, how many have lines. -/
structure Pa where
  gone : Nat
  n : Nat
  deriving DecidableEq
/-- A ring: its limit, the places of a page, the first line's number, the lines, the pages. -/
structure Rg where
  limit : Nat
  places : Nat
  first : Nat
  ls : List Ln
  ps : List Pa
  deriving DecidableEq
def Rg.next (r : Rg) : Nat := r.first + r.ls.length
/-- The first line is dropped from the first page, which is taken away if it has none then. -/
def dropP : List Pa → List Pa
  | [] => []
  | p :: ps => if p.n - 1 = 0 then ps else ⟨p.gone + 1, p.n - 1⟩ :: ps
def Rg.one (r : Rg) : Rg := ⟨r.limit, r.places, r.first + 1, r.ls.drop 1, dropP r.ps⟩
def evictN : Nat → Rg → Rg
  | 0, r => r
  | k + 1, r => evictN k r.one
def Rg.evict (r : Rg) : Rg := evictN (r.ls.length - r.limit) r
/-- One line more on the last page, or on one more behind it. -/
def addP (places : Nat) : List Pa → List Pa
  | [] => [⟨0, 1⟩]
  | [p] => if p.gone + p.n = places then [p, ⟨0, 1⟩] else [⟨p.gone, p.n + 1⟩]
  | p :: q :: ps => p :: addP places (q :: ps)
/-- One line less on the last page, which is taken away if it has none then. -/
def popP : List Pa → List Pa
  | [] => []
  | [p] => if p.n - 1 = 0 then [] else [⟨p.gone, p.n - 1⟩]
  | p :: q :: ps => p :: popP (q :: ps)
def pushG (r : Rg) (x : Ln) : Rg × Int := if validL x.l = false then (r, 2) else ((⟨r.limit, r.places, r.first, r.ls ++ [x], addP r.places r.ps⟩ : Rg).evict, 0)
def popG (r : Rg) : Rg × Ln × Int := if r.ls = [] then (r, noLn, 9) else (⟨r.limit, r.places, r.first, r.ls.dropLast, popP r.ps⟩, r.ls.getLastD noLn, 0)
def atG (r : Rg) (k : Int) : Int := if k < 0 ∨ (r.next : Int) ≤ k then 3 else if k < (r.first : Int) then 14 else 0
def getG (r : Rg) (k : Int) : Ln × Int := if atG r k = 0 then (r.ls.getD (k.toNat - r.first) noLn, 0) else (noLn, atG r k)
def setG (r : Rg) (k : Int) (x : Ln) : Rg × Int := if validL x.l = false then (r, 2) else if atG r k = 0 then (⟨r.limit, r.places, r.first, r.ls.set (k.toNat - r.first) x, r.ps⟩, 0) else (r, atG r k)
def rangeG (r : Rg) (f t : Int) : List Ln × Int := if f < 0 ∨ t < f ∨ (r.next : Int) < t then ([], 3) else if f < (r.first : Int) then ([], 14) else ((r.ls.take (t.toNat - r.first)).drop (f.toNat - r.first), 0)
def limitG (r : Rg) (k : Int) : Rg × Int := if k < 0 ∨ 1048576 < k then (r, 2) else ((⟨k.toNat, r.places, r.first, r.ls, r.ps⟩ : Rg).evict, 0)
def clearG (r : Rg) : Rg := ⟨r.limit, r.places, r.next, [], []⟩

/-- How many lines pages have. -/
def sumP (ps : List Pa) : Nat := (ps.map (·.n)).sum
/-- Pages of a ring: each has a line, and at most so many places; places are gone on the first one alone; all but the last one are full. -/
def fullP (places : Nat) : List Pa → Prop
  | [] => True
  | [p] => 1 ≤ p.n ∧ p.gone + p.n ≤ places
  | p :: q :: ps => 1 ≤ p.n ∧ p.gone + p.n = places ∧ q.gone = 0 ∧ fullP places (q :: ps)
structure rgOk (r : Rg) : Prop where
  p1 : 1 ≤ r.places
  p2 : r.places ≤ 1024
  l2 : r.limit ≤ 1048576
  sum : sumP r.ps = r.ls.length
  full : fullP r.places r.ps
  val : ∀ x ∈ r.ls, validL x.l = true
  le : r.ls.length ≤ r.limit
theorem sumP_cons (p : Pa) (ps : List Pa) : sumP (p :: ps) = p.n + sumP ps := by simp [sumP]
theorem fullP_tail {places : Nat} {p : Pa} {ps : List Pa} (h : fullP places (p :: ps)) : fullP places ps := by
  cases ps with
  | nil => trivial
  | cons q ps => exact h.2.2.2
theorem fullP_head {places : Nat} {p : Pa} {ps : List Pa} (h : fullP places (p :: ps)) : 1 ≤ p.n ∧ p.gone + p.n ≤ places := by
  cases ps with
  | nil => exact h
  | cons q ps => exact ⟨h.1, by have := h.2.1; omega⟩
theorem dropP_cons (p : Pa) (ps : List Pa) : dropP (p :: ps) = if p.n - 1 = 0 then ps else ⟨p.gone + 1, p.n - 1⟩ :: ps := rfl
theorem dropP_full {places : Nat} : ∀ {ps : List Pa}, fullP places ps → fullP places (dropP ps)
  | [], _ => trivial
  | [p], h => by
    rw [dropP_cons]
    by_cases h0 : p.n - 1 = 0
    · rw [if_pos h0]; trivial
    · rw [if_neg h0]
      exact ⟨by show 1 ≤ p.n - 1; omega, by have := h.1; have := h.2; show p.gone + 1 + (p.n - 1) ≤ places; omega⟩
  | p :: q :: ps, h => by
    rw [dropP_cons]
    by_cases h0 : p.n - 1 = 0
    · rw [if_pos h0]; exact h.2.2.2
    · rw [if_neg h0]
      exact ⟨by show 1 ≤ p.n - 1; omega, by have := h.1; have := h.2.1; show p.gone + 1 + (p.n - 1) = places; omega, h.2.2.1, h.2.2.2⟩
theorem dropP_sum {places : Nat} : ∀ {ps : List Pa}, fullP places ps → sumP (dropP ps) = sumP ps - 1
  | [], _ => rfl
  | p :: ps, h => by
    have h1 := (fullP_head h).1
    rw [dropP_cons, sumP_cons]
    by_cases h0 : p.n - 1 = 0
    · rw [if_pos h0]; omega
    · rw [if_neg h0, sumP_cons]; show p.n - 1 + sumP ps = _; omega
theorem addP_sum (places : Nat) : ∀ ps : List Pa, sumP (addP places ps) = sumP ps + 1
  | [] => rfl
  | [p] => by
    unfold addP
    split
    · simp [sumP]
    · simp [sumP]
  | p :: q :: ps => by
    unfold addP
    rw [sumP_cons, sumP_cons, addP_sum places (q :: ps)]
    omega
theorem addP_head (places : Nat) (p : Pa) : ∀ ps : List Pa, ∃ n qs, addP places (p :: ps) = ⟨p.gone, n⟩ :: qs := by
  intro ps
  cases ps with
  | nil =>
    unfold addP
    split
    · exact ⟨p.n, _, rfl⟩
    · exact ⟨p.n + 1, _, rfl⟩
  | cons q ps => exact ⟨p.n, _, rfl⟩
theorem addP_full {places : Nat} (hp : 1 ≤ places) : ∀ {ps : List Pa}, fullP places ps → fullP places (addP places ps)
  | [], _ => ⟨Nat.le_refl _, by show 0 + 1 ≤ places; omega⟩
  | [p], h => by
    unfold addP
    split
    · rename_i he
      exact ⟨h.1, he, rfl, Nat.le_refl _, by show 0 + 1 ≤ places; omega⟩
    · rename_i he
      exact ⟨by show 1 ≤ p.n + 1; omega, by have := h.2; show p.gone + (p.n + 1) ≤ places; omega⟩
  | p :: q :: ps, h => by
    have ih := addP_full hp h.2.2.2
    obtain ⟨n, qs, e⟩ := addP_head places q ps
    show fullP places (p :: addP places (q :: ps))
    rw [e] at ih ⊢
    exact ⟨h.1, h.2.1, h.2.2.1, ih⟩
theorem popP_sum {places : Nat} : ∀ {ps : List Pa}, fullP places ps → sumP (popP ps) = sumP ps - 1
  | [], _ => rfl
  | [p], h => by
    have := h.1
    unfold popP
    split
    · simp [sumP]; omega
    · simp [sumP]
  | p :: q :: ps, h => by
    have h1 := (fullP_head h.2.2.2).1
    unfold popP
    rw [sumP_cons, sumP_cons, popP_sum h.2.2.2, sumP_cons]
    omega
theorem popP_full {places : Nat} : ∀ {ps : List Pa}, fullP places ps → fullP places (popP ps)
  | [], _ => trivial
  | [p], h => by
    unfold popP
    split
    · trivial
    · exact ⟨by show 1 ≤ p.n - 1; omega, by have := h.2; show p.gone + (p.n - 1) ≤ places; omega⟩
  | [p, q], h => by
    have h3 := h.2.2.2
    show fullP places (p :: popP [q])
    unfold popP
    split
    · exact ⟨h.1, by have := h.2.1; omega⟩
    · exact ⟨h.1, h.2.1, h.2.2.1, by show 1 ≤ q.n - 1; omega, by have := h3.2; show q.gone + (q.n - 1) ≤ places; omega⟩
  | p :: q :: s :: ps, h => by
    have ih := popP_full h.2.2.2
    have e : popP (q :: s :: ps) = q :: popP (s :: ps) := rfl
    show fullP places (p :: popP (q :: s :: ps))
    rw [e] at ih ⊢
    exact ⟨h.1, h.2.1, h.2.2.1, ih⟩
/-- Pages and places: lines fill all pages but the last one, and what is not gone of the first one. -/
theorem pages_le {places : Nat} (hp : 1 ≤ places) : ∀ (qs : List Pa) (p : Pa), fullP places (p :: qs) → qs.length * places ≤ sumP qs + places
  | [], p, h => by simp
  | [q], p, h => by simp [sumP]
  | q :: s :: qs, p, h => by
    have h2 := h.2.2.2
    have ih := pages_le hp (s :: qs) q h2
    have e : q.n = places := by have h4 := h.2.2.1; have h5 := h2.2.1; omega
    rw [sumP_cons, List.length_cons, Nat.add_mul, Nat.one_mul, e]
    omega
def dropPs : Nat → List Pa → List Pa
  | 0, ps => ps
  | k + 1, ps => dropPs k (dropP ps)
theorem evictN_is : ∀ (k : Nat) (r : Rg), evictN k r = ⟨r.limit, r.places, r.first + k, r.ls.drop k, dropPs k r.ps⟩
  | 0, r => by simp [evictN, dropPs]
  | k + 1, r => by
    rw [evictN, evictN_is k r.one]
    simp only [Rg.one, dropPs, List.drop_drop]
    congr 1
    · omega
    · congr 1; omega
theorem dropPs_full {places : Nat} : ∀ (k : Nat) {ps : List Pa}, fullP places ps → fullP places (dropPs k ps)
  | 0, _, h => h
  | k + 1, _, h => dropPs_full k (dropP_full h)
theorem dropPs_sum {places : Nat} : ∀ (k : Nat) {ps : List Pa}, fullP places ps → sumP (dropPs k ps) = sumP ps - k
  | 0, _, h => rfl
  | k + 1, ps, h => by
    rw [dropPs, dropPs_sum k (dropP_full h), dropP_sum h]
    omega
theorem evict_next (r : Rg) : r.evict.next = r.next := by
  unfold Rg.evict Rg.next
  rw [evictN_is]
  simp only [List.length_drop]
  omega
theorem evict_ok {r : Rg} (p1 : 1 ≤ r.places) (p2 : r.places ≤ 1024) (l2 : r.limit ≤ 1048576) (hs : sumP r.ps = r.ls.length) (hf : fullP r.places r.ps) (hv : ∀ x ∈ r.ls, validL x.l = true) : rgOk r.evict := by
  unfold Rg.evict
  rw [evictN_is]
  exact ⟨p1, p2, l2, by rw [dropPs_sum _ hf, hs, List.length_drop], dropPs_full _ hf, fun x hx => hv x (List.mem_of_mem_drop hx), by simp only [List.length_drop]; omega⟩
theorem pushG_ok {r : Rg} {x : Ln} (h : rgOk r) : rgOk (pushG r x).1 := by
  unfold pushG
  split
  · exact h
  · rename_i hv
    refine evict_ok h.p1 h.p2 h.l2 ?_ (addP_full h.p1 h.full) (fun y hy => ?_)
    · simp only [addP_sum, h.sum, List.length_append, List.length_cons, List.length_nil]
    · rcases List.mem_append.1 hy with hy | hy
      · exact h.val y hy
      · simp only [List.mem_singleton] at hy
        subst hy
        simpa using hv
theorem popG_ok {r : Rg} (h : rgOk r) : rgOk (popG r).1 := by
  unfold popG
  split
  · exact h
  · refine ⟨h.p1, h.p2, h.l2, ?_, popP_full h.full, fun y hy => h.val y ((List.dropLast_sublist _).subset hy), ?_⟩
    · rw [popP_sum h.full, h.sum, List.length_dropLast]
    · have := h.le
      simp only [List.length_dropLast]
      omega
theorem setG_ok {r : Rg} {k : Int} {x : Ln} (h : rgOk r) : rgOk (setG r k x).1 := by
  unfold setG
  split
  · exact h
  · rename_i hv
    split
    · refine ⟨h.p1, h.p2, h.l2, by simpa using h.sum, h.full, fun y hy => ?_, by simpa using h.le⟩
      rcases List.mem_or_eq_of_mem_set hy with hy | hy
      · exact h.val y hy
      · subst hy
        simpa using hv
    · exact h
theorem limitG_ok {r : Rg} {k : Int} (h : rgOk r) : rgOk (limitG r k).1 := by
  unfold limitG
  split
  · exact h
  · exact evict_ok h.p1 h.p2 (by show k.toNat ≤ 1048576; omega) h.sum h.full h.val
theorem clearG_ok {r : Rg} (h : rgOk r) : rgOk (clearG r) := ⟨h.p1, h.p2, h.l2, rfl, trivial, fun x hx => (by cases hx), Nat.zero_le _⟩
/-- At most two pages more than the limit divided by the places. -/
theorem pages_most {r : Rg} (h : rgOk r) : r.ps.length ≤ r.limit / r.places + 2 := by
  have hp := h.p1
  cases hps : r.ps with
  | nil => simp
  | cons p qs =>
    have h2 := h.full
    rw [hps] at h2
    have h1 := pages_le hp qs p h2
    have h3 := (fullP_head h2).1
    have h4 := h.sum
    rw [hps, sumP_cons] at h4
    have h5 := h.le
    rw [List.length_cons]
    have h6 : qs.length * r.places ≤ r.limit + r.places := by omega
    have h7 : qs.length ≤ (r.limit + r.places) / r.places := (Nat.le_div_iff_mul_le hp).2 h6
    rw [Nat.add_div_right _ hp] at h7
    omega
theorem dropPs_succ : ∀ (k : Nat) (ps : List Pa), dropPs (k + 1) ps = dropP (dropPs k ps)
  | 0, ps => rfl
  | k + 1, ps => by
    show dropPs (k + 1) (dropP ps) = dropP (dropPs k (dropP ps))
    exact dropPs_succ k (dropP ps)
theorem popP_last (q : Pa) : ∀ qs : List Pa, popP (qs ++ [q]) = if q.n - 1 = 0 then qs else qs ++ [⟨q.gone, q.n - 1⟩]
  | [] => by
    show popP [q] = _
    unfold popP
    simp
  | [p] => by
    show p :: popP [q] = _
    have := popP_last q []
    simp only [List.nil_append] at this
    rw [this]
    split <;> simp
  | p :: s :: qs => by
    show p :: popP (s :: (qs ++ [q])) = _
    have := popP_last q (s :: qs)
    simp only [List.cons_append] at this
    rw [this]
    split <;> simp
theorem addP_last (places : Nat) (q : Pa) : ∀ qs : List Pa, addP places (qs ++ [q]) = if q.gone + q.n = places then qs ++ [q, ⟨0, 1⟩] else qs ++ [⟨q.gone, q.n + 1⟩]
  | [] => by
    show addP places [q] = _
    unfold addP
    simp
  | [p] => by
    show p :: addP places [q] = _
    have := addP_last places q []
    simp only [List.nil_append] at this
    rw [this]
    split <;> simp
  | p :: s :: qs => by
    show p :: addP places (s :: (qs ++ [q])) = _
    have := addP_last places q (s :: qs)
    simp only [List.cons_append] at this
    rw [this]
    split <;> simp
theorem fullP_last {places : Nat} (q : Pa) : ∀ qs : List Pa, fullP places (qs ++ [q]) → 1 ≤ q.n ∧ q.gone + q.n ≤ places
  | [], h => h
  | [p], h => h.2.2.2
  | p :: s :: qs, h => fullP_last q (s :: qs) h.2.2.2
end Go.Proofs.YtnkddhmhjnhgcaaGreatDoor
