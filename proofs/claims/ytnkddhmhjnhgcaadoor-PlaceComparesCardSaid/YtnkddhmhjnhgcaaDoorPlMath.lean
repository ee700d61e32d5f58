/- The chapter of places on integers: places, their order, the nearest one, steps. Nothing of the program is used here. -/
import Derived.Lib.ItoaNum
import Derived.Lib.AtoiAll
import Derived.Lib.IndexMore
namespace Go.Proofs.YtnkddhmhjnhgcaaDoor
set_option linter.unusedVariables false

structure Pl where
  l : Int
  c : Int
  deriving DecidableEq
def Fit (p : Pl) : Prop := (-9223372036854775808 ≤ p.l ∧ p.l ≤ 9223372036854775807) ∧ (-9223372036854775808 ≤ p.c ∧ p.c ≤ 9223372036854775807)
def Wd (n : Int) : Prop := -9223372036854775808 ≤ n ∧ n ≤ 9223372036854775807
def vP (p : Pl) : Bool := decide (0 ≤ p.l ∧ p.l ≤ 1099511627776 ∧ 0 ≤ p.c ∧ p.c ≤ 1000)
def cmpI (a b : Int) : Int := if a < b then -1 else if b < a then 1 else 0
def cmpP (a b : Pl) : Int := if cmpI a.l b.l = 0 then cmpI a.c b.c else cmpI a.l b.l
def befP (a b : Pl) : Bool := decide (a.l < b.l ∨ a.l = b.l ∧ a.c < b.c)
def ordP (a b : Pl) : Pl × Pl := if cmpP b a < 0 then (b, a) else (a, b)
def withP (p f t : Pl) : Bool := decide (cmpP f p ≤ 0 ∧ cmpP p t < 0)
def colP (c : Int) : Bool := decide (1 ≤ c ∧ c ≤ 1000)
def p0 : Pl := ⟨0, 0⟩
def clampP (p : Pl) (f n c : Int) : Pl × Int := if f < 0 ∨ n ≤ f ∨ 1099511627777 < n ∨ colP c = false then (p0, 2) else if p.l < f then (⟨f, 0⟩, 0) else if n ≤ p.l then (⟨n - 1, c - 1⟩, 0) else (⟨p.l, min (max p.c 0) (c - 1)⟩, 0)
def inP (p : Pl) (c : Int) : Bool := decide (colP c = true ∧ vP p = true ∧ p.c < c)
def cellP (p : Pl) (c : Int) : Int := p.l * c + p.c
def lastP (c : Int) : Int := 1099511627776 * c + (c - 1)
def stepP (p : Pl) (n c : Int) : Pl × Int := if inP p c = false then (p0, 2) else if n < -cellP p c ∨ lastP c - cellP p c < n then (p0, 3) else (⟨(cellP p c + n) / c, (cellP p c + n) % c⟩, 0)
def distP (a b : Pl) (c : Int) : Int × Int := if inP a c = false ∨ inP b c = false then (0, 2) else (cellP b c - cellP a c, 0)

theorem vP_iff (p : Pl) : vP p = true ↔ 0 ≤ p.l ∧ p.l ≤ 1099511627776 ∧ 0 ≤ p.c ∧ p.c ≤ 1000 := decide_eq_true_iff
theorem colP_iff (c : Int) : colP c = true ↔ 1 ≤ c ∧ c ≤ 1000 := decide_eq_true_iff
theorem inP_iff (p : Pl) (c : Int) : inP p c = true ↔ (1 ≤ c ∧ c ≤ 1000) ∧ (0 ≤ p.l ∧ p.l ≤ 1099511627776 ∧ 0 ≤ p.c ∧ p.c ≤ 1000) ∧ p.c < c := by
  unfold inP; rw [decide_eq_true_iff, colP_iff, vP_iff]
theorem befP_iff (a b : Pl) : befP a b = true ↔ a.l < b.l ∨ a.l = b.l ∧ a.c < b.c := decide_eq_true_iff
theorem cmpI_cases (a b : Int) : (a < b ∧ cmpI a b = -1) ∨ (b < a ∧ cmpI a b = 1) ∨ (a = b ∧ cmpI a b = 0) := by
  unfold cmpI
  by_cases h : a < b
  · exact .inl ⟨h, if_pos h⟩
  · by_cases k : b < a
    · exact .inr (.inl ⟨k, by rw [if_neg h, if_pos k]⟩)
    · exact .inr (.inr ⟨by omega, by rw [if_neg h, if_neg k]⟩)
theorem cmpP_cases (a b : Pl) : (befP a b = true ∧ cmpP a b = -1) ∨ (befP b a = true ∧ cmpP a b = 1) ∨ (a = b ∧ cmpP a b = 0) := by
  rw [befP_iff, befP_iff]
  unfold cmpP
  rcases cmpI_cases a.l b.l with ⟨h, e⟩ | ⟨h, e⟩ | ⟨h, e⟩ <;> rw [e]
  · exact .inl ⟨.inl h, rfl⟩
  · exact .inr (.inl ⟨.inl h, rfl⟩)
  · rcases cmpI_cases a.c b.c with ⟨k, f⟩ | ⟨k, f⟩ | ⟨k, f⟩ <;> rw [if_pos rfl, f]
    · exact .inl ⟨.inr ⟨h, k⟩, rfl⟩
    · exact .inr (.inl ⟨.inr ⟨h.symm, k⟩, rfl⟩)
    · obtain ⟨al, ac⟩ := a
      obtain ⟨bl, bc⟩ := b
      exact .inr (.inr ⟨by simp only at h k; rw [h, k], rfl⟩)
theorem cmpP_range (a b : Pl) : -1 ≤ cmpP a b ∧ cmpP a b ≤ 1 := by
  rcases cmpP_cases a b with ⟨_, e⟩ | ⟨_, e⟩ | ⟨_, e⟩ <;> rw [e] <;> decide
theorem bef_irr {a b : Pl} (h : befP a b = true) : befP b a = false := by
  rw [befP_iff] at h
  cases e : befP b a with
  | false => rfl
  | true => rw [befP_iff] at e; omega
theorem bef_self (a : Pl) : befP a a = false := by
  cases e : befP a a with
  | false => rfl
  | true => rw [befP_iff] at e; omega
theorem cmpP_neg (a b : Pl) : cmpP b a = -cmpP a b := by
  rcases cmpP_cases a b with ⟨h, e⟩ | ⟨h, e⟩ | ⟨h, e⟩ <;> rw [e]
  · rcases cmpP_cases b a with ⟨k, f⟩ | ⟨k, f⟩ | ⟨k, f⟩
    · rw [bef_irr h] at k; cases k
    · rw [f]; rfl
    · subst k; rw [bef_self] at h; cases h
  · rcases cmpP_cases b a with ⟨k, f⟩ | ⟨k, f⟩ | ⟨k, f⟩
    · rw [f]
    · rw [bef_irr h] at k; cases k
    · subst k; rw [bef_self] at h; cases h
  · subst h; rw [e]; rfl
theorem cmpP_lt (a b : Pl) : cmpP a b < 0 ↔ befP a b = true := by
  rcases cmpP_cases a b with ⟨h, e⟩ | ⟨h, e⟩ | ⟨h, e⟩ <;> rw [e]
  · simp [h]
  · rw [bef_irr h]; simp
  · subst h; rw [bef_self]; simp
theorem cmpP_le (a b : Pl) : cmpP a b ≤ 0 ↔ befP b a = false := by
  rcases cmpP_cases a b with ⟨h, e⟩ | ⟨h, e⟩ | ⟨h, e⟩ <;> rw [e]
  · rw [bef_irr h]; simp
  · rw [h]; simp
  · subst h; rw [bef_self]; simp
theorem cmpP_zero (a b : Pl) : cmpP a b = 0 ↔ a = b := by
  rcases cmpP_cases a b with ⟨h, e⟩ | ⟨h, e⟩ | ⟨h, e⟩ <;> rw [e]
  · constructor
    · intro k; cases k
    · intro k; subst k; rw [bef_self] at h; cases h
  · constructor
    · intro k; cases k
    · intro k; subst k; rw [bef_self] at h; cases h
  · simp [h]
theorem cmpP_trans {a b c : Pl} (h : cmpP a b ≤ 0) (k : cmpP b c ≤ 0) : cmpP a c ≤ 0 := by
  rw [cmpP_le] at *
  have h' : ¬ befP b a = true := by simp [h]
  have k' : ¬ befP c b = true := by simp [k]
  have g : ¬ befP c a = true := by rw [befP_iff] at *; omega
  simpa using g
theorem cell_bound {p : Pl} {c : Int} (h : inP p c = true) : 0 ≤ cellP p c ∧ cellP p c ≤ lastP c ∧ lastP c ≤ 1099511628775999 := by
  rw [inP_iff] at h
  obtain ⟨⟨h1, h2⟩, ⟨h3, h4, h5, h6⟩, h7⟩ := h
  unfold cellP lastP
  have h8 : p.l * c ≤ 1099511627776 * c := Int.mul_le_mul_of_nonneg_right h4 (by omega)
  have h9 : 0 ≤ p.l * c := Int.mul_nonneg h3 (by omega)
  omega
theorem cell_div {p : Pl} {c : Int} (h : inP p c = true) : cellP p c / c = p.l ∧ cellP p c % c = p.c := by
  rw [inP_iff] at h
  obtain ⟨⟨h1, h2⟩, ⟨h3, h4, h5, h6⟩, h7⟩ := h
  unfold cellP
  rw [Int.mul_comm, Int.mul_add_ediv_left _ _ (by omega), Int.ediv_eq_zero_of_lt h5 h7, Int.mul_add_emod_self_left, Int.emod_eq_of_lt h5 h7]
  omega
/-- What is so many cells behind is a cell. -/
theorem step_in {k c : Int} (h1 : 1 ≤ c) (h2 : c ≤ 1000) (h3 : 0 ≤ k) (h4 : k ≤ lastP c) : inP ⟨k / c, k % c⟩ c = true ∧ cellP ⟨k / c, k % c⟩ c = k := by
  have e1 : 0 ≤ k / c := Int.ediv_nonneg h3 (by omega)
  have e2 : 0 ≤ k % c := Int.emod_nonneg k (by omega)
  have e3 : k % c < c := Int.emod_lt_of_pos k (by omega)
  have e4 := Int.mul_ediv_add_emod k c
  have e5 : k / c < 1099511627777 := (Int.ediv_lt_iff_lt_mul (by omega)).2 (by unfold lastP at h4; omega)
  rw [inP_iff]
  refine ⟨⟨⟨h1, h2⟩, ⟨e1, by show k / c ≤ _; omega, e2, by show k % c ≤ 1000; omega⟩, e3⟩, ?_⟩
  show k / c * c + k % c = k
  rw [Int.mul_comm]
  exact e4
theorem step_ok {p : Pl} {n c : Int} (h : inP p c = true) (h1 : 0 ≤ cellP p c + n) (h2 : cellP p c + n ≤ lastP c) : stepP p n c = (⟨(cellP p c + n) / c, (cellP p c + n) % c⟩, 0) := by
  unfold stepP
  rw [if_neg (by simp [h]), if_neg (by omega)]
theorem step_out {p : Pl} {n c : Int} (h : inP p c = true) (h1 : cellP p c + n < 0 ∨ lastP c < cellP p c + n) : stepP p n c = (p0, 3) := by
  unfold stepP
  rw [if_neg (by simp [h]), if_pos (by omega)]
theorem step_bad {p : Pl} {n c : Int} (h : inP p c = false) : stepP p n c = (p0, 2) := by
  unfold stepP
  rw [if_pos h]
/-- Step by the distance leads from the first place to the second one. -/
theorem step_dist {a b : Pl} {c : Int} (h : inP a c = true) (k : inP b c = true) : stepP a (cellP b c - cellP a c) c = (b, 0) := by
  have hb := cell_bound k
  rw [step_ok h (by omega) (by omega), show cellP a c + (cellP b c - cellP a c) = cellP b c by omega, (cell_div k).1, (cell_div k).2]
/-- Steps follow each other as their numbers are added. -/
theorem step_step {a : Pl} {n m c : Int} (h : (stepP a n c).2 = 0) : stepP (stepP a n c).1 m c = stepP a (n + m) c := by
  cases hi : inP a c with
  | false => rw [step_bad hi] at h; cases h
  | true =>
    have hc := (inP_iff a c).1 hi
    by_cases h1 : 0 ≤ cellP a c + n ∧ cellP a c + n ≤ lastP c
    · rw [step_ok hi h1.1 h1.2]
      obtain ⟨e1, e2⟩ := step_in hc.1.1 hc.1.2 h1.1 h1.2
      by_cases h2 : 0 ≤ cellP a c + n + m ∧ cellP a c + n + m ≤ lastP c
      · rw [step_ok e1 (by rw [e2]; omega) (by rw [e2]; omega), e2, step_ok hi (by omega) (by omega), Int.add_assoc]
      · rw [step_out e1 (by rw [e2]; omega), step_out hi (by omega)]
    · rw [step_out hi (by omega)] at h; cases h
theorem dist_sign {a b : Pl} {c : Int} (h : inP a c = true) (k : inP b c = true) : ((cellP b c - cellP a c > 0) ↔ cmpP a b < 0) ∧ ((cellP b c - cellP a c = 0) ↔ cmpP a b = 0) := by
  rw [cmpP_lt, cmpP_zero, befP_iff]
  have key : ∀ {x y : Pl}, inP x c = true → inP y c = true → x.l < y.l → cellP x c < cellP y c := by
    intro x y hx hy hxy
    rw [inP_iff] at hx hy
    unfold cellP
    have : (x.l + 1) * c ≤ y.l * c := Int.mul_le_mul_of_nonneg_right (by omega) (by omega)
    rw [Int.add_mul] at this
    omega
  rcases Int.lt_trichotomy a.l b.l with hl | hl | hl
  · have := key h k hl
    refine ⟨⟨fun _ => .inl hl, fun _ => by omega⟩, ⟨fun _ => by omega, fun e => by subst e; omega⟩⟩
  · have e : cellP b c - cellP a c = b.c - a.c := by unfold cellP; rw [hl]; omega
    rw [e]
    refine ⟨⟨fun _ => .inr ⟨hl, by omega⟩, fun g => by omega⟩, ⟨fun g => ?_, fun g => by subst g; omega⟩⟩
    obtain ⟨al, ac⟩ := a
    obtain ⟨bl, bc⟩ := b
    simp only at hl g
    rw [hl, show ac = bc by omega]
  · have := key k h hl
    refine ⟨⟨fun _ => by omega, fun g => by omega⟩, ⟨fun _ => by omega, fun e => by subst e; omega⟩⟩
/-- What Clamp returns is one of those cells. -/
theorem clamp_in {p : Pl} {f n c : Int} (h : (clampP p f n c).2 = 0) : f ≤ (clampP p f n c).1.l ∧ (clampP p f n c).1.l < n ∧ 0 ≤ (clampP p f n c).1.c ∧ (clampP p f n c).1.c < c := by
  unfold clampP at *
  by_cases g : f < 0 ∨ n ≤ f ∨ 1099511627777 < n ∨ colP c = false
  · rw [if_pos g] at h; cases h
  · have hc : colP c = true := by simp at g; exact g.2.2.2
    rw [colP_iff] at hc
    rw [if_neg g]
    by_cases h1 : p.l < f
    · rw [if_pos h1]; simp only; omega
    · rw [if_neg h1]
      by_cases h2 : n ≤ p.l
      · rw [if_pos h2]; simp only; omega
      · rw [if_neg h2]; simp only; omega
theorem clamp_err (p q : Pl) (f n c : Int) : (clampP p f n c).2 = (clampP q f n c).2 := by
  unfold clampP
  by_cases g : f < 0 ∨ n ≤ f ∨ 1099511627777 < n ∨ colP c = false
  · rw [if_pos g, if_pos g]
  · rw [if_neg g, if_neg g]
    split <;> split <;> (try split) <;> (try split) <;> rfl
theorem clamp_same {p : Pl} {f n c : Int} (h : (clampP p f n c).2 = 0) (h1 : f ≤ p.l) (h2 : p.l < n) (h3 : 0 ≤ p.c) (h4 : p.c < c) : (clampP p f n c).1 = p := by
  unfold clampP at *
  by_cases g : f < 0 ∨ n ≤ f ∨ 1099511627777 < n ∨ colP c = false
  · rw [if_pos g] at h; cases h
  · rw [if_neg g, if_neg (by omega), if_neg (by omega)]
    obtain ⟨l, k⟩ := p
    simp only at *
    rw [show min (max k 0) (c - 1) = k by omega]
theorem clamp_mono {p q : Pl} {f n c : Int} (h : (clampP p f n c).2 = 0) (hx : cmpP p q ≤ 0) : cmpP (clampP p f n c).1 (clampP q f n c).1 ≤ 0 := by
  rw [cmpP_le] at hx ⊢
  have hx' : ¬ befP q p = true := by simp [hx]
  suffices hg : ¬ befP (clampP q f n c).1 (clampP p f n c).1 = true by simpa using hg
  rw [befP_iff] at hx' ⊢
  unfold clampP at *
  by_cases g : f < 0 ∨ n ≤ f ∨ 1099511627777 < n ∨ colP c = false
  · rw [if_pos g] at h; cases h
  · have hc : colP c = true := by simp at g; exact g.2.2.2
    rw [colP_iff] at hc
    rw [if_neg g, if_neg g]
    clear h hx
    by_cases h1 : p.l < f
    · by_cases h3 : q.l < f
      · rw [if_pos h1, if_pos h3]; simp only; omega
      · by_cases h4 : n ≤ q.l
        · rw [if_pos h1, if_neg h3, if_pos h4]; simp only; omega
        · rw [if_pos h1, if_neg h3, if_neg h4]; simp only; omega
    · by_cases h2 : n ≤ p.l
      · rw [if_neg h1, if_pos h2, if_neg (by omega : ¬ q.l < f), if_pos (by omega : n ≤ q.l)]; simp only; omega
      · by_cases h4 : n ≤ q.l
        · rw [if_neg h1, if_neg h2, if_neg (by omega : ¬ q.l < f), if_pos h4]; simp only; omega
        · rw [if_neg h1, if_neg h2, if_neg (by omega : ¬ q.l < f), if_neg h4]; simp only; omega
theorem div_fit {x c : Int} (h1 : 1 ≤ c) (hx : Wd x) : Wd (Int.tdiv x c) := by
  have hc : 0 < c := by omega
  rcases Int.lt_or_le x 0 with h | h
  · have e : Int.tdiv x c = -((-x) / c) := by rw [← Int.tdiv_eq_ediv_of_nonneg (by omega : 0 ≤ -x), Int.neg_tdiv, Int.neg_neg]
    have : (-x) / c ≤ -x := Int.ediv_le_self _ (by omega)
    have : 0 ≤ (-x) / c := Int.ediv_nonneg (by omega) (by omega)
    unfold Wd at *
    omega
  · have e : Int.tdiv x c = x / c := Int.tdiv_eq_ediv_of_nonneg h
    have : x / c ≤ x := Int.ediv_le_self _ h
    have : 0 ≤ x / c := Int.ediv_nonneg h (by omega)
    unfold Wd at *
    omega
end Go.Proofs.YtnkddhmhjnhgcaaDoor
