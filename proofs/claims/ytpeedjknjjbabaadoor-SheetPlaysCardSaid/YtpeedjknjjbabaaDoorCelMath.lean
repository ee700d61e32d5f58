/- The chapter's definitions on integers: cells, rows, fixing. Nothing of the program is used here. -/
import Derived.Test.YtpeedjknjjbabaaDoorPenMath
import Derived.Test.YtpeedjknjjbabaaDoorWidMath
import Derived.Laws.Cover4
set_option linter.unusedVariables false
namespace Go.Proofs.YtpeedjknjjbabaaDoor

/-- A cell: its rune, its marks, its width, its pen. -/
structure Cl where
  r : Int
  m0 : Int
  m1 : Int
  m2 : Int
  w : Int
  p : Pn
  deriving DecidableEq
def R32 (x : Int) : Prop := -2147483648 ≤ x ∧ x ≤ 2147483647
structure ClB (c : Cl) : Prop where
  r : R32 c.r
  m0 : R32 c.m0
  m1 : R32 c.m1
  m2 : R32 c.m2
  p : PnB c.p
def blankC (p : Pn) : Cl := ⟨0, 0, 0, 0, 1, p⟩
def spacerC (p : Pn) : Cl := ⟨0, 0, 0, 0, 0, p⟩
def zeroK : Cl := spacerC zeroP

def mkI (x : Int) : Bool := decide (ofI x = 0)
def cntI (a b c : Int) : Nat := if mkI a = true then (if mkI b = true then (if mkI c = true then 3 else 2) else 1) else 0
def unmI (a b c : Int) : Bool := decide (a = 0 ∧ b = 0 ∧ c = 0)
def ordI (a b c : Int) : Bool := if mkI a = true then (if mkI b = true then (if mkI c = true then true else decide (c = 0)) else decide (b = 0 ∧ c = 0)) else unmI a b c
def rmkI (a b c : Int) : Nat × Bool :=
  if a = 0 then (0, decide (b = 0 ∧ c = 0)) else if mkI a = false then (0, false) else
  if b = 0 then (1, decide (c = 0)) else if mkI b = false then (1, false) else
  if c = 0 then (2, true) else if mkI c = false then (2, false) else (3, true)
def validC (c : Cl) : Bool := decide (penOk c.p) && (if c.r = 0 then (decide (c.w = 1) || decide (c.w = 0)) && unmI c.m0 c.m1 c.m2 else decide (0 < c.w) && decide (c.w = ofI c.r) && ordI c.m0 c.m1 c.m2)
def rvalidC (c : Cl) : Bool := decide (penOk c.p) && ((rmkI c.m0 c.m1 c.m2).2 &&
  (if c.w = 0 then decide (c.r = 0) && decide ((rmkI c.m0 c.m1 c.m2).1 = 0) else if c.w = 1 then (if c.r = 0 then decide ((rmkI c.m0 c.m1 c.m2).1 = 0) else decide (ofI c.r = 1)) else if c.w = 2 then decide (ofI c.r = 2) else false))

theorem ofI_zero : ofI 0 = -1 := by decide
theorem mkI_zero : mkI 0 = false := by decide
theorem rmk_ord (a b c : Int) : (rmkI a b c).2 = ordI a b c := by
  unfold rmkI ordI unmI
  by_cases h0 : a = 0
  · subst h0; simp [mkI_zero]
  · cases ha : mkI a
    · simp [h0]
    · by_cases h1 : b = 0
      · subst h1; simp [h0, mkI_zero]
      · cases hb : mkI b
        · simp [h0, h1]
        · by_cases h2 : c = 0
          · subst h2; simp [h0, h1, mkI_zero]
          · cases hc : mkI c <;> simp [h0, h1, h2]
theorem rmk_cnt (a b c : Int) (h : ordI a b c = true) : (rmkI a b c).1 = cntI a b c := by
  unfold rmkI cntI
  unfold ordI unmI at h
  by_cases h0 : a = 0
  · subst h0; simp [mkI_zero]
  · cases ha : mkI a
    · simp [h0]
    · by_cases h1 : b = 0
      · subst h1; simp [h0, mkI_zero]
      · cases hb : mkI b
        · simp [h0, h1]
        · by_cases h2 : c = 0
          · subst h2; simp [h0, h1, mkI_zero]
          · cases hc : mkI c <;> simp [h0, h1, h2]
theorem unm_iff (a b c : Int) : unmI a b c = true ↔ (rmkI a b c).2 = true ∧ (rmkI a b c).1 = 0 := by
  unfold rmkI unmI
  by_cases h0 : a = 0
  · subst h0; simp
  · cases ha : mkI a
    · simp [h0]
    · by_cases h1 : b = 0
      · subst h1; simp [h0]
      · cases hb : mkI b
        · simp [h0, h1]
        · by_cases h2 : c = 0
          · subst h2; simp [h0, h1]
          · cases hc : mkI c <;> simp [h0, h1, h2]
theorem rvalidC_is (c : Cl) : rvalidC c = validC c := by
  unfold rvalidC validC
  have hu := unm_iff c.m0 c.m1 c.m2
  rw [rmk_ord] at *
  have hb := ofI_bound c.r
  cases decide (penOk c.p)
  · rfl
  · by_cases hr : c.r = 0
    · have hz : ofI c.r = -1 := by rw [hr]; exact ofI_zero
      simp only [if_pos hr]
      rw [hz, Bool.eq_iff_iff]
      simp only [Bool.true_and, Bool.and_eq_true, Bool.or_eq_true, decide_eq_true_eq]
      by_cases h0 : c.w = 0
      · rw [if_pos h0]; simp [hr, h0, hu]
      · rw [if_neg h0]
        by_cases h1 : c.w = 1
        · rw [if_pos h1]; simp [h1, hu]
        · rw [if_neg h1]
          by_cases h2 : c.w = 2
          · rw [if_pos h2]; simp [h2]
          · rw [if_neg h2]; simp [h0, h1]
    · simp only [if_neg hr]
      rw [Bool.eq_iff_iff]
      simp only [Bool.true_and, Bool.and_eq_true, decide_eq_true_eq]
      by_cases h0 : c.w = 0
      · rw [if_pos h0]; simp [hr, h0]
      · rw [if_neg h0]
        by_cases h1 : c.w = 1
        · rw [if_pos h1, h1]; simp only [decide_eq_true_eq]; constructor <;> rintro h <;> simp_all <;> omega
        · rw [if_neg h1]
          by_cases h2 : c.w = 2
          · rw [if_pos h2, h2]; simp only [decide_eq_true_eq]; constructor <;> rintro h <;> simp_all <;> omega
          · rw [if_neg h2]; simp; intros; omega

/-- What is known of a valid cell. -/
theorem valid_w {c : Cl} (h : validC c = true) : (c.w = 0 ∧ c = spacerC c.p) ∨ c.w = 1 ∨ c.w = 2 := by
  unfold validC at h
  have hb := ofI_bound c.r
  simp only [Bool.and_eq_true, decide_eq_true_eq] at h
  by_cases hr : c.r = 0
  · rw [if_pos hr] at h
    simp [unmI] at h
    obtain ⟨_, h1, h2, h3, h4⟩ := h
    rcases h1 with h1 | h1
    · exact .inr (.inl h1)
    · refine .inl ⟨h1, ?_⟩
      obtain ⟨r, m0, m1, m2, w, p⟩ := c
      simp only at hr h1 h2 h3 h4
      subst hr h1 h2 h3 h4
      rfl
  · rw [if_neg hr] at h
    simp at h
    omega
theorem valid_pen {c : Cl} (h : validC c = true) : penOk c.p := by
  unfold validC at h
  simp only [Bool.and_eq_true, decide_eq_true_eq] at h
  exact h.1
theorem valid_spacer {p : Pn} (h : penOk p) : validC (spacerC p) = true := by
  unfold validC spacerC unmI; simp [h]
theorem valid_blank {p : Pn} (h : penOk p) : validC (blankC p) = true := by
  unfold validC blankC unmI; simp [h]

/-- Rows, by the cell before. -/
def rowFrom (b : Cl) : List Cl → Bool
  | [] => !decide (b.w = 2)
  | c :: l => validC c && (decide (c.w = 0 ↔ b.w = 2) && (!(decide (c.w = 0) && !decide (c.p = b.p)) && rowFrom c l))
def rowI (l : List Cl) : Bool := rowFrom zeroK l
def rrow : List Cl → Bool
  | [] => true
  | [c] => if validC c = false ∨ c.w = 0 then false else if c.w = 1 then true else false
  | c :: d :: l => if validC c = false ∨ c.w = 0 then false else if c.w = 1 then rrow (d :: l) else if d = spacerC c.p then rrow l else false

theorem rowFrom_flat {b : Cl} (h : b.w ≠ 2) (l : List Cl) : rowFrom b l = rowI l := by
  cases l with
  | nil => simp [rowFrom, rowI, h, zeroK, spacerC]
  | cons c l =>
    simp only [rowFrom, rowI]
    by_cases h0 : c.w = 0
    · simp [h0, h, zeroK, spacerC]
    · simp [h0, h, zeroK, spacerC]
theorem rrow_is : ∀ (n : Nat) (l : List Cl), l.length ≤ n → rrow l = rowI l := by
  intro n
  induction n with
  | zero => intro l hl; obtain rfl := List.eq_nil_of_length_eq_zero (Nat.le_zero.1 hl); rfl
  | succ n ih =>
    intro l hl
    cases l with
    | nil => rfl
    | cons c l =>
      have e : rowI (c :: l) = (validC c && (decide (c.w = 0 ↔ (0 : Int) = 2) && (!(decide (c.w = 0) && !decide (c.p = zeroP)) && rowFrom c l))) := rfl
      rw [e]
      cases hv : validC c
      · cases l <;> simp [rrow, hv]
      · rcases valid_w hv with ⟨h0, _⟩ | h1 | h2
        · cases l <;> simp [rrow, h0]
        · rw [rowFrom_flat (by omega), ← ih l (by simp at hl; omega)]
          cases l <;> simp [rrow, h1, hv]
        · cases l with
          | nil => simp [rrow, rowFrom, h2]
          | cons d l' =>
            simp only [rowFrom, rrow, h2, hv]
            by_cases hd : d = spacerC c.p
            · subst hd
              rw [rowFrom_flat (b := spacerC c.p) (by simp [spacerC]), ← ih l' (by simp at hl; omega), valid_spacer (valid_pen hv)]
              simp [spacerC]
            · cases hvd : validC d
              · simp [hd]
              · rcases valid_w hvd with ⟨h0, h0'⟩ | h1 | h2'
                · have : d.p ≠ c.p := fun hp => hd (by rw [h0', hp])
                  simp [hd, h0, this]
                · simp [hd, h1]
                · simp [hd, h2']

/-- Fixing, by the cell before; the reference's. -/
def fixOne (b c : Cl) (s : Bool) : Cl := if b.w = 2 then spacerC b.p else if c.w = 0 then blankC c.p else if c.w = 2 ∧ s = false then blankC c.p else c
def headS : List Cl → Bool
  | [] => false
  | c :: _ => decide (c.w = 0)
def fixGo (b : Cl) : List Cl → List Cl
  | [] => []
  | c :: l => fixOne b c (headS l) :: fixGo (fixOne b c (headS l)) l
def fixI (l : List Cl) : List Cl := fixGo zeroK l
def rfixOne (b c : Cl) (s : Bool) : Cl := if c.w = 0 ∧ b.w = 2 then spacerC b.p else if c.w = 0 then blankC c.p else if c.w = 2 ∧ s = false then blankC c.p else c
/-- A wide cell is left only where a spacer is next. -/
theorem fixOne_wide {b c : Cl} {s : Bool} (h : (fixOne b c s).w = 2) : s = true := by
  unfold fixOne at h
  split at h
  · simp [spacerC] at h
  · split at h
    · simp [blankC] at h
    · split at h
      · simp [blankC] at h
      · rename_i h1 h2 h3
        cases s
        · exact absurd ⟨h, rfl⟩ h3
        · rfl
theorem rfix_same {b c : Cl} {s : Bool} (h : b.w = 2 → c.w = 0) : rfixOne b c s = fixOne b c s := by
  unfold rfixOne fixOne
  by_cases hb : b.w = 2
  · simp [hb, h hb]
  · simp [hb]
theorem fix_len : ∀ (l : List Cl) (b : Cl), (fixGo b l).length = l.length
  | [], _ => rfl
  | c :: l, b => by simp [fixGo, fix_len l]

def okF (b : Cl) : List Cl → Prop
  | [] => b.w ≠ 2
  | c :: l => (c.w = 0 ↔ b.w = 2) ∧ (c.w = 0 → c = spacerC b.p) ∧ okF c l
theorem fix_ok : ∀ (l : List Cl) (b : Cl), (b.w = 2 → headS l = true) → okF b (fixGo b l)
  | [], b, h => fun h2 => by simpa [headS] using h h2
  | c :: l, b, h => by
    refine ⟨?_, ?_, fix_ok l _ fixOne_wide⟩
    · unfold fixOne
      split
      · rename_i hb; simp [spacerC, hb]
      · rename_i hb
        split
        · simp [blankC, hb]
        · split
          · simp [blankC, hb]
          · simp_all
    · unfold fixOne
      split
      · intro _; rfl
      · split
        · simp [blankC]
        · split
          · simp [blankC]
          · simp_all
theorem ok_head {b : Cl} {l : List Cl} (h : okF b l) (h2 : b.w = 2) : headS l = true := by
  cases l with
  | nil => exact absurd h2 h
  | cons c l => simp [headS, h.1.2 h2]
theorem ok_fix : ∀ (l : List Cl) (b : Cl), okF b l → fixGo b l = l
  | [], _, _ => rfl
  | c :: l, b, h => by
    have e : fixOne b c (headS l) = c := by
      unfold fixOne
      split
      · rename_i hb; exact (h.2.1 (h.1.2 hb)).symm
      · rename_i hb
        rw [if_neg (fun h0 => hb (h.1.1 h0)), if_neg]
        rintro ⟨hw, hs⟩
        rw [ok_head h.2.2 hw] at hs
        cases hs
    rw [fixGo, e, ok_fix l c h.2.2]
theorem row_ok : ∀ (l : List Cl) (b : Cl), rowFrom b l = true → okF b l
  | [], b, h => by simpa [rowFrom, okF] using h
  | c :: l, b, h => by
    simp only [rowFrom, Bool.and_eq_true, decide_eq_true_eq] at h
    obtain ⟨hv, h1, h2, h3⟩ := h
    refine ⟨h1, fun h0 => ?_, row_ok l c h3⟩
    rcases valid_w hv with ⟨_, e⟩ | h' | h'
    · have hp : c.p = b.p := by simpa [h0] using h2
      rw [e, hp]
    · omega
    · omega
theorem ok_row : ∀ (l : List Cl) (b : Cl), okF b l → (∀ c ∈ l, validC c = true) → rowFrom b l = true
  | [], b, h, _ => by simpa [rowFrom, okF] using h
  | c :: l, b, h, hv => by
    simp only [rowFrom, Bool.and_eq_true, decide_eq_true_eq]
    refine ⟨hv c (by simp), h.1, ?_, ok_row l c h.2.2 (fun x hx => hv x (by simp [hx]))⟩
    by_cases h0 : c.w = 0
    · have := congrArg Cl.p (h.2.1 h0)
      simp [h0, this, spacerC]
    · simp [h0]
theorem fix_valid : ∀ (l : List Cl) (b : Cl), (b.w = 2 → penOk b.p) → (∀ c ∈ l, validC c = true) → ∀ c ∈ fixGo b l, validC c = true
  | [], _, _, _ => by simp [fixGo]
  | c :: l, b, hb, hv => by
    have h1 : validC (fixOne b c (headS l)) = true := by
      have hc := hv c (by simp)
      unfold fixOne
      split
      · rename_i h2; exact valid_spacer (hb h2)
      · split
        · exact valid_blank (valid_pen hc)
        · split
          · exact valid_blank (valid_pen hc)
          · exact hc
    intro x hx
    rw [fixGo] at hx
    rcases List.mem_cons.1 hx with rfl | hx
    · exact h1
    · exact fix_valid l _ (fun _ => valid_pen h1) (fun y hy => hv y (by simp [hy])) x hx
theorem fix_is_ok (l : List Cl) : okF zeroK (fixI l) := fix_ok l zeroK (by simp [zeroK, spacerC])
theorem fix_fix (l : List Cl) : fixI (fixI l) = fixI l := ok_fix _ _ (fix_is_ok l)
theorem fix_row (l : List Cl) (h : ∀ c ∈ l, validC c = true) : rowI (fixI l) = true := ok_row _ _ (fix_is_ok l) (fix_valid l _ (by simp [zeroK, spacerC]) h)
theorem row_fix (l : List Cl) (h : rowI l = true) : fixI l = l := ok_fix _ _ (row_ok _ _ h)
theorem row_app : ∀ (x y : List Cl) (b : Cl), rowFrom b x = true → rowI y = true → rowFrom b (x ++ y) = true
  | [], y, b, h, hy => by
    rw [List.nil_append, rowFrom_flat (by simpa [rowFrom] using h)]
    exact hy
  | c :: x, y, b, h, hy => by
    simp only [rowFrom, List.cons_append, Bool.and_eq_true] at h ⊢
    exact ⟨h.1, h.2.1, h.2.2.1, row_app x y c h.2.2.2 hy⟩

/-- A rune's cells, a cell with one more mark: the result, and the error's number. -/
def ofC (r : Int) (p : Pn) : Cl := ⟨r, 0, 0, 0, ofI r, p⟩
def setM (c : Cl) (n : Nat) (x : Int) : Cl := match n with | 0 => { c with m0 := x } | 1 => { c with m1 := x } | _ => { c with m2 := x }
def markE (c : Cl) (x : Int) : Cl × Int :=
  if validC c = false ∨ mkI x = false then (zeroK, 2) else if c.r = 0 then (zeroK, 8) else if cntI c.m0 c.m1 c.m2 = 3 then (zeroK, 7) else (setM c (cntI c.m0 c.m1 c.m2) x, 0)
theorem of_valid (r : Int) (p : Pn) : validC (ofC r p) = true ↔ 1 ≤ ofI r ∧ penOk p := by
  unfold validC ofC
  simp only [Bool.and_eq_true, decide_eq_true_eq]
  by_cases hr : r = 0
  · subst hr; rw [ofI_zero]; simp
  · rw [if_neg hr]
    have ho : ordI 0 0 0 = true := by decide
    simp only [ho, and_true, Bool.and_true, Bool.and_eq_true, decide_eq_true_eq]
    constructor
    · rintro ⟨h1, h2⟩; exact ⟨by omega, h1⟩
    · rintro ⟨h1, h2⟩; exact ⟨h2, by omega⟩

/-- The runes of a cell's text; the text; that of several. -/
def nzL (l : List Int) : List Int := l.filter fun x => decide (x ≠ 0)
def textL (c : Cl) : List Int := c.r :: nzL [c.m0, c.m1, c.m2]
def textC (c : Cl) : ByteArray := if c.w = 0 then ⟨#[]⟩ else if c.r = 0 then ⟨#[32]⟩ else runesBytes (textL c)
def textsC (l : List Cl) : List UInt8 := l.flatMap fun c => (textC c).data.toList

end Go.Proofs.YtpeedjknjjbabaaDoor
