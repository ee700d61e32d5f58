/- Layer 2 on integers: the two tables, how many columns a number has, lists of numbers. Nothing of the program is used here. -/
import Derived.WalkKit
namespace Go.Proofs.YtpeedjknjjbabaaDoor

def marksT : List (Int × Int) := [(0x300, 0x36F), (0x483, 0x489), (0x591, 0x5BD), (0x610, 0x61A), (0x64B, 0x65F), (0x6D6, 0x6DC), (0xE31, 0xE31), (0xE34, 0xE3A), (0xE47, 0xE4E), (0x1AB0, 0x1AFF), (0x1DC0, 0x1DFF), (0x200B, 0x200F), (0x20D0, 0x20FF), (0x302A, 0x302F), (0x3099, 0x309A), (0xFE00, 0xFE0F), (0xFE20, 0xFE2F), (0xE0100, 0xE01EF)]
def wideT : List (Int × Int) := [(0x1100, 0x115F), (0x2329, 0x232A), (0x2E80, 0x3029), (0x3030, 0x303E), (0x3041, 0x3098), (0x309B, 0x33FF), (0x3400, 0x4DBF), (0x4E00, 0xA4CF), (0xA960, 0xA97F), (0xAC00, 0xD7A3), (0xF900, 0xFAFF), (0xFE30, 0xFE6F), (0xFF00, 0xFF60), (0xFFE0, 0xFFE6), (0x1F300, 0x1F64F), (0x1F680, 0x1F6FF), (0x1F900, 0x1F9FF), (0x20000, 0x2FFFD), (0x30000, 0x3FFFD)]

/-- A table in increasing order. -/
def Sorted (T : List (Int × Int)) : Prop := (∀ i, i < T.length → (T.getD i (0, 0)).1 ≤ (T.getD i (0, 0)).2) ∧ ∀ i j, i < j → j < T.length → (T.getD i (0, 0)).2 < (T.getD j (0, 0)).1
theorem sorted_of {T : List (Int × Int)} (h1 : ∀ x ∈ T, x.1 ≤ x.2) (h2 : T.Pairwise fun x y => x.2 < y.1) : Sorted T := by
  refine ⟨fun i hi => ?_, fun i j hij hj => ?_⟩
  · rw [List.getD_eq_getElem?_getD, List.getElem?_eq_getElem hi]
    exact h1 _ (List.getElem_mem hi)
  · rw [List.getD_eq_getElem?_getD, List.getD_eq_getElem?_getD, List.getElem?_eq_getElem hj, List.getElem?_eq_getElem (show i < T.length by omega)]
    exact List.pairwise_iff_getElem.1 h2 i j (by omega) hj hij
theorem marks_sorted : Sorted marksT := sorted_of (by decide) (by decide)
theorem wide_sorted : Sorted wideT := sorted_of (by decide) (by decide)
theorem marks_len : marksT.length = 18 := rfl
theorem wide_len : wideT.length = 19 := rfl

def sideI (r : Int) (x : Int × Int) : Int := if r < x.1 then -1 else if x.2 < r then 1 else 0
def inT (T : List (Int × Int)) (r : Int) : Bool := T.any fun x => decide (x.1 ≤ r) && decide (r ≤ x.2)

theorem inT_true {T : List (Int × Int)} {r : Int} (k : Nat) (hk : k < T.length) (h1 : (T.getD k (0, 0)).1 ≤ r) (h2 : r ≤ (T.getD k (0, 0)).2) : inT T r = true := by
  rw [List.getD_eq_getElem?_getD, List.getElem?_eq_getElem hk] at h1 h2
  unfold inT
  rw [List.any_eq_true]
  exact ⟨T[k], List.getElem_mem hk, by simpa using ⟨h1, h2⟩⟩
theorem inT_elim {T : List (Int × Int)} {r : Int} (h : inT T r = true) : ∃ k, k < T.length ∧ (T.getD k (0, 0)).1 ≤ r ∧ r ≤ (T.getD k (0, 0)).2 := by
  unfold inT at h
  rw [List.any_eq_true] at h
  obtain ⟨x, hx, hr⟩ := h
  obtain ⟨k, hk, rfl⟩ := List.getElem_of_mem hx
  refine ⟨k, hk, ?_⟩
  rw [List.getD_eq_getElem?_getD, List.getElem?_eq_getElem hk]
  simpa using hr

theorem side_mono {T : List (Int × Int)} (hs : Sorted T) (r : Int) : ∀ a b, a ≤ b → b < T.length → 0 < sideI r (T.getD b (0, 0)) → 0 < sideI r (T.getD a (0, 0)) := by
  intro a b hab hb h
  rcases Nat.lt_or_eq_of_le hab with h1 | rfl
  · have h2 := hs.2 a b h1 hb
    have h3 := hs.1 b hb
    have h4 := hs.1 a (by omega)
    unfold sideI at h ⊢
    split at h
    · omega
    · split at h
      · rw [if_neg (by omega), if_pos (by omega)]; omega
      · omega
  · exact h

/-- What a search by halving finds. -/
theorem found_is {T : List (Int × Int)} (hs : Sorted T) (r : Int) (i : Nat) (h1 : ∀ t, t < i → 0 < sideI r (T.getD t (0, 0))) (h2 : ∀ t, i ≤ t → t < T.length → sideI r (T.getD t (0, 0)) ≤ 0) :
    (decide (i < T.length) && decide (sideI r (T.getD i (0, 0)) = 0)) = inT T r := by
  rw [Bool.eq_iff_iff]
  constructor
  · intro h
    simp only [Bool.and_eq_true, decide_eq_true_eq] at h
    refine inT_true i h.1 ?_ ?_ <;> have h3 := h.2 <;> unfold sideI at h3 <;> split at h3 <;> (try split at h3) <;> omega
  · intro h
    obtain ⟨k, hk, h3, h4⟩ := inT_elim h
    have h5 : sideI r (T.getD k (0, 0)) = 0 := by unfold sideI; rw [if_neg (by omega), if_neg (by omega)]
    have h6 : ¬ k < i := fun hlt => by have := h1 k hlt; omega
    have h7 : k = i := by
      rcases Nat.lt_or_ge i k with h8 | h8
      · exfalso
        have h9 := h2 i (Nat.le_refl _) (by omega)
        have h10 := hs.2 i k h8 hk
        have h11 := hs.1 i (by omega)
        unfold sideI at h9
        rw [if_neg (by omega), if_pos (by omega)] at h9
        omega
      · omega
    subst h7
    rw [decide_eq_true hk, decide_eq_true h5]
    rfl

def printedI (r : Int) : Bool := decide (32 ≤ r ∧ r ≤ 1114111 ∧ ¬ (127 ≤ r ∧ r ≤ 159) ∧ ¬ (55296 ≤ r ∧ r ≤ 57343))
def ofI (r : Int) : Int := if printedI r = true then (if inT marksT r = true then 0 else if inT wideT r = true then 2 else 1) else -1
def colsI (r : Int) : Int := max (ofI r) 0
theorem ofI_bound (r : Int) : -1 ≤ ofI r ∧ ofI r ≤ 2 := by unfold ofI; repeat (first | split | omega)
theorem colsI_bound (r : Int) : 0 ≤ colsI r ∧ colsI r ≤ 2 := by have := ofI_bound r; unfold colsI; omega

def textI (l : List Int) : Int := (l.map colsI).sum
theorem textI_nil : textI [] = 0 := rfl
theorem textI_append (l m : List Int) : textI (l ++ m) = textI l + textI m := by simp [textI]
theorem textI_cons (x : Int) (l : List Int) : textI (x :: l) = colsI x + textI l := by simp [textI]
theorem textI_snoc (l : List Int) (x : Int) : textI (l ++ [x]) = textI l + colsI x := by simp [textI]
theorem textI_bound (l : List Int) : 0 ≤ textI l ∧ textI l ≤ 2 * l.length := by
  induction l with
  | nil => simp [textI]
  | cons x l ih => have := colsI_bound x; rw [textI_cons, List.length_cons]; omega

def fitsI : List Int → Int → Nat
  | [], _ => 0
  | x :: l, c => if c < colsI x then 0 else fitsI l (c - colsI x) + 1
theorem fitsI_le (l : List Int) (c : Int) : fitsI l c ≤ l.length := by
  induction l generalizing c with
  | nil => simp [fitsI]
  | cons x l ih => unfold fitsI; split; simp; have := ih (c - colsI x); simp; omega
/-- What fits has at most so many columns (of a number of columns that is not below 0). -/
theorem fitsI_fit (l : List Int) (c : Int) (hc : 0 ≤ c) : textI (l.take (fitsI l c)) ≤ c := by
  induction l generalizing c with
  | nil => simpa [fitsI, textI] using hc
  | cons x l ih =>
    unfold fitsI
    split
    · simpa [textI] using hc
    · rw [List.take_succ_cons, textI_cons]
      have := ih (c - colsI x) (by omega)
      omega
theorem fitsI_more (l : List Int) (c : Int) (h : fitsI l c < l.length) : c < textI (l.take (fitsI l c + 1)) := by
  induction l generalizing c with
  | nil => simp at h
  | cons x l ih =>
    unfold fitsI at h ⊢
    split
    · simpa [textI] using ‹c < colsI x›
    · rw [if_neg ‹_›] at h
      rw [List.take_succ_cons, textI_cons]
      have := ih (c - colsI x) (by simpa using h)
      omega
theorem fitsI_mono (l : List Int) (c d : Int) (h : c ≤ d) : fitsI l c ≤ fitsI l d := by
  induction l generalizing c d with
  | nil => simp [fitsI]
  | cons x l ih =>
    unfold fitsI
    split
    · omega
    · rw [if_neg (by omega)]
      have := ih (c - colsI x) (d - colsI x) (by omega)
      omega
end Go.Proofs.YtpeedjknjjbabaaDoor
