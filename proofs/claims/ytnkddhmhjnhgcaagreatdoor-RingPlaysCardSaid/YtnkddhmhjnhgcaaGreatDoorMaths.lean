/- Layer 2 on integers: the two tables, how many columns a number has, lists of numbers. Nothing of the program is used here. The chapter's definitions on integers: colors, pens, their words. Nothing of the program is used here. The chapter's definitions on integers: cells, rows, fixing. Nothing of the program is used here. The chapter's definitions on lists: lines, their used cells, trimming, fitting, putting, and the chapter's consequences. Nothing of the program is used here. The chapter's definitions on lists: pages, and what becomes of them. Nothing of the program is used here. -/
import Derived.WalkKit
import Derived.Laws.BitsLemmas
import Derived.Laws.Bits64
import Derived.Laws.Cover4
namespace Go.Proofs.YtnkddhmhjnhgcaaGreatDoor

def marksT : List (Int × Int) := [(0x300, 0x36F), (0x483, 0x489), (0x591, 0x5BD), (0x610, 0x61A), (0x64B, 0x65F), (0x6D6, 0x6DC), (0xE31, 0xE31), (0xE34, 0xE3A), (0xE47, 0xE4E), (0x1AB0, 0x1AFF), (0x1DC0, 0x1DFF), (0x200B, 0x200F), (0x20D0, 0x20FF), (0x302A, 0x302F), (0x3099, 0x309A), (0xFE00, 0xFE0F), (0xFE20, 0xFE2F), (0xE0100, 0xE01EF)]
def wideT : List (Int × Int) := [(0x1100, 0x115F), (0x2329, 0x232A), (0x2E80, 0x3029), (0x3030, 0x303E), (0x3041, 0x3098), (0x309B, 0x33FF), (0x3400, 0x4DBF), (0x4E00, 0xA4CF), (0xA960, 0xA97F), (0xAC00, 0xD7A3), (0xF900, 0xFAFF), (0xFE30, 0xFE6F), (0xFF00, 0xFF60), (0xFFE0, 0xFFE6), (0x1F300, 0x1F64F), (0x1F680, 0x1F6FF), (0x1F900, 0x1F9FF), (0x20000, 0x2FFFD), (0x30000, 0x3FFFD)]

/-- A table in increasing order. -/
def Sorted (T : List (Int × Int)) : Prop := (∀ i, i < T.length → (T.getD i (0, 0)).1 ≤ (T.getD i (0, 0)).2) ∧ ∀ i j, i < j → j < T.length → (T.getD i (0, 0)).2 < (T.getD j (0, 0)).1
theorem sorted_of {T : List (Int × Int)} (h1 : ∀ x ∈ T, x.1 ≤ x.2) (h2 : T.Pairwise fun x y => x.2 < y.1) : Sorted T := by
  refine ⟨fun i hi => ?_, fun i j hij hj => ?_⟩
  · rw [List.getD_eq_getElem?_getD, List.getElem?_eq_getElem hi]
    exact h1 _ (List.getElem_mem hi)
  · rw [List.getD_eq_getElem?_getD, List.getD_eq_getElem?_getD, List.getElem?_eq_getElem hj, List.getElem?_eq_getElem (show i < T.length by omega)]
    exact List.pairwise_iff_getElem.1 h2 i j (by omega) hj hij
theorem marks_sorted : Sorted marksT := sorted_of (by decide) (by decide)
theorem wide_sorted : Sorted wideT := sorted_of (by decide) (by decide)
theorem marks_len : marksT.length = 18 := rfl
theorem wide_len : wideT.length = 19 := rfl

def sideI (r : Int) (x : Int × Int) : Int := if r < x.1 then -1 else if x.2 < r then 1 else 0
def inT (T : List (Int × Int)) (r : Int) : Bool := T.any fun x => decide (x.1 ≤ r) && decide (r ≤ x.2)

theorem inT_true {T : List (Int × Int)} {r : Int} (k : Nat) (hk : k < T.length) (h1 : (T.getD k (0, 0)).1 ≤ r) (h2 : r ≤ (T.getD k (0, 0)).2) : inT T r = true := by
  rw [List.getD_eq_getElem?_getD, List.getElem?_eq_getElem hk] at h1 h2
  unfold inT
  rw [List.any_eq_true]
  exact ⟨T[k], List.getElem_mem hk, by simpa using ⟨h1, h2⟩⟩
theorem inT_elim {T : List (Int × Int)} {r : Int} (h : inT T r = true) : ∃ k, k < T.length ∧ (T.getD k (0, 0)).1 ≤ r ∧ r ≤ (T.getD k (0, 0)).2 := by
  unfold inT at h
  rw [List.any_eq_true] at h
  obtain ⟨x, hx, hr⟩ := h
  obtain ⟨k, hk, rfl⟩ := List.getElem_of_mem hx
  refine ⟨k, hk, ?_⟩
  rw [List.getD_eq_getElem?_getD, List.getElem?_eq_getElem hk]
  simpa using hr

theorem side_mono {T : List (Int × Int)} (hs : Sorted T) (r : Int) : ∀ a b, a ≤ b → b < T.length → 0 < sideI r (T.getD b (0, 0)) → 0 < sideI r (T.getD a (0, 0)) := by
  intro a b hab hb h
  rcases Nat.lt_or_eq_of_le hab with h1 | rfl
  · have h2 := hs.2 a b h1 hb
    have h3 := hs.1 b hb
    have h4 := hs.1 a (by omega)
    unfold sideI at h ⊢
    split at h
    · omega
    · split at h
      · rw [if_neg (by omega), if_pos (by omega)]; omega
      · omega
  · exact h

/-- What a search by halving finds. -/
theorem found_is {T : List (Int × Int)} (hs : Sorted T) (r : Int) (i : Nat) (h1 : ∀ t, t < i → 0 < sideI r (T.getD t (0, 0))) (h2 : ∀ t, i ≤ t → t < T.length → sideI r (T.getD t (0, 0)) ≤ 0) :
    (decide (i < T.length) && decide (sideI r (T.getD i (0, 0)) = 0)) = inT T r := by
  rw [Bool.eq_iff_iff]
  constructor
  · intro h
    simp only [Bool.and_eq_true, decide_eq_true_eq] at h
    refine inT_true i h.1 ?_ ?_ <;> have h3 := h.2 <;> unfold sideI at h3 <;> split at h3 <;> (try split at h3) <;> omega
  · intro h
    obtain ⟨k, hk, h3, h4⟩ := inT_elim h
    have h5 : sideI r (T.getD k (0, 0)) = 0 := by unfold sideI; rw [if_neg (by omega), if_neg (by omega)]
    have h6 : ¬ k < i := fun hlt => by have := h1 k hlt; omega
    have h7 : k = i := by
      rcases Nat.lt_or_ge i k with h8 | h8
      · exfalso
        have h9 := h2 i (Nat.le_refl _) (by omega)
        have h10 := hs.2 i k h8 hk
        have h11 := hs.1 i (by omega)
        unfold sideI at h9
        rw [if_neg (by omega), if_pos (by omega)] at h9
        omega
      · omega
    subst h7
    rw [decide_eq_true hk, decide_eq_true h5]
    rfl

def printedI (r : Int) : Bool := decide (32 ≤ r ∧ r ≤ 1114111 ∧ ¬ (127 ≤ r ∧ r ≤ 159) ∧ ¬ (55296 ≤ r ∧ r ≤ 57343))
def ofI (r : Int) : Int := if printedI r = true then (if inT marksT r = true then 0 else if inT wideT r = true then 2 else 1) else -1
def colsI (r : Int) : Int := max (ofI r) 0
theorem ofI_bound (r : Int) : -1 ≤ ofI r ∧ ofI r ≤ 2 := by unfold ofI; repeat (first | split | omega)
theorem colsI_bound (r : Int) : 0 ≤ colsI r ∧ colsI r ≤ 2 := by have := ofI_bound r; unfold colsI; omega

def textI (l : List Int) : Int := (l.map colsI).sum
theorem textI_nil : textI [] = 0 := rfl
theorem textI_append (l m : List Int) : textI (l ++ m) = textI l + textI m := by simp [textI]
theorem textI_cons (x : Int) (l : List Int) : textI (x :: l) = colsI x + textI l := by simp [textI]
theorem textI_snoc (l : List Int) (x : Int) : textI (l ++ [x]) = textI l + colsI x := by simp [textI]
theorem textI_bound (l : List Int) : 0 ≤ textI l ∧ textI l ≤ 2 * l.length := by
  induction l with
  | nil => simp [textI]
  | cons x l ih => have := colsI_bound x; rw [textI_cons, List.length_cons]; omega

def fitsI : List Int → Int → Nat
  | [], _ => 0
  | x :: l, c => if c < colsI x then 0 else fitsI l (c - colsI x) + 1
theorem fitsI_le (l : List Int) (c : Int) : fitsI l c ≤ l.length := by
  induction l generalizing c with
  | nil => simp [fitsI]
  | cons x l ih => unfold fitsI; split; simp; have := ih (c - colsI x); simp; omega
/-- What fits has at most so many columns (of a number of columns that is not below 0). -/
theorem fitsI_fit (l : List Int) (c : Int) (hc : 0 ≤ c) : textI (l.take (fitsI l c)) ≤ c := by
  induction l generalizing c with
  | nil => simpa [fitsI, textI] using hc
  | cons x l ih =>
    unfold fitsI
    split
    · simpa [textI] using hc
    · rw [List.take_succ_cons, textI_cons]
      have := ih (c - colsI x) (by omega)
      omega
theorem fitsI_more (l : List Int) (c : Int) (h : fitsI l c < l.length) : c < textI (l.take (fitsI l c + 1)) := by
  induction l generalizing c with
  | nil => simp at h
  | cons x l ih =>
    unfold fitsI at h ⊢
    split
    · simpa [textI] using ‹c < colsI x›
    · rw [if_neg ‹_›] at h
      rw [List.take_succ_cons, textI_cons]
      have := ih (c - colsI x) (by simpa using h)
      omega
theorem fitsI_mono (l : List Int) (c d : Int) (h : c ≤ d) : fitsI l c ≤ fitsI l d := by
  induction l generalizing c d with
  | nil => simp [fitsI]
  | cons x l ih =>
    unfold fitsI
    split
    · omega
    · rw [if_neg (by omega)]
      have := ih (c - colsI x) (d - colsI x) (by omega)
      omega
end Go.Proofs.YtnkddhmhjnhgcaaGreatDoor
set_option linter.unusedVariables false
namespace Go.Proofs.YtnkddhmhjnhgcaaGreatDoor

/-- A color: its kind, its index, its parts. -/
structure Col where
  k : Int
  i : Int
  r : Int
  g : Int
  b : Int
  deriving DecidableEq
/-- A pen: both colors, its flags. -/
structure Pn where
  f : Col
  b : Col
  fl : Int
  deriving DecidableEq

def Byte (x : Int) : Prop := 0 ≤ x ∧ x ≤ 255
structure ColB (c : Col) : Prop where
  i : Byte c.i
  r : Byte c.r
  g : Byte c.g
  b : Byte c.b
structure PnB (p : Pn) : Prop where
  f : ColB p.f
  b : ColB p.b
  fl : Byte p.fl

def colOk (c : Col) : Prop := (c.k = 0 ∧ c.i = 0 ∧ c.r = 0 ∧ c.g = 0 ∧ c.b = 0) ∨ (c.k = 1 ∧ c.r = 0 ∧ c.g = 0 ∧ c.b = 0) ∨ (c.k = 2 ∧ c.i = 0)
instance (c : Col) : Decidable (colOk c) := by unfold colOk; infer_instance
theorem colOk_iff (k i r g b : Int) : decide (colOk ⟨k, i, r, g, b⟩) = true ↔ (k = 0 ∧ i = 0 ∧ r = 0 ∧ g = 0 ∧ b = 0) ∨ (k = 1 ∧ r = 0 ∧ g = 0 ∧ b = 0) ∨ (k = 2 ∧ i = 0) := decide_eq_true_iff
theorem beqT {a b : Int} (h : (a == b) = true) : a = b := by simpa using h
theorem beqF {a b : Int} (h : (a == b) = false) : a ≠ b := by simpa using h
def penOk (p : Pn) : Prop := colOk p.f ∧ colOk p.b
instance (p : Pn) : Decidable (penOk p) := by unfold penOk; infer_instance

/-- The bits of a color; the word of a pen. -/
def bitsI (c : Col) : Int := if c.k = 1 then 16777216 + c.i else if c.k = 2 then 33554432 + 65536 * c.r + 256 * c.g + c.b else 0
def packI (p : Pn) : Int := bitsI p.f + 67108864 * bitsI p.b + 4503599627370496 * p.fl
def zeroC : Col := ⟨0, 0, 0, 0, 0⟩
def zeroP : Pn := ⟨zeroC, zeroC, 0⟩
/-- The color with these bits, the pen of a word. -/
def colI (w : Int) : Col := if w / 16777216 = 1 then ⟨1, w % 256, 0, 0, 0⟩ else if w / 16777216 = 2 then ⟨2, 0, w / 65536 % 256, w / 256 % 256, w % 256⟩ else zeroC
def unpackI (w : Int) : Pn := ⟨colI (w % 67108864), colI (w / 67108864 % 67108864), w / 4503599627370496 % 256⟩

theorem bits_bound {c : Col} (h : colOk c) (hb : ColB c) : 0 ≤ bitsI c ∧ bitsI c < 67108864 := by
  have h1 := hb.i.1; have h2 := hb.i.2; have h3 := hb.r.1; have h4 := hb.r.2; have h5 := hb.g.1; have h6 := hb.g.2; have h7 := hb.b.1; have h8 := hb.b.2
  unfold bitsI
  split
  · omega
  · split <;> omega

theorem col_bits {c : Col} (h : colOk c) (hb : ColB c) : colI (bitsI c) = c := by
  have h1 := hb.i.1; have h2 := hb.i.2; have h3 := hb.r.1; have h4 := hb.r.2; have h5 := hb.g.1; have h6 := hb.g.2; have h7 := hb.b.1; have h8 := hb.b.2
  obtain ⟨k, i, r, g, b⟩ := c
  simp only at h1 h2 h3 h4 h5 h6 h7 h8
  rcases h with ⟨q1, q2, q3, q4, q5⟩ | ⟨q1, q3, q4, q5⟩ | ⟨q1, q2⟩
  · simp only at q1 q2 q3 q4 q5; subst q1 q2 q3 q4 q5; rfl
  · simp only at q1 q3 q4 q5
    subst q1 q3 q4 q5
    have e1 : (16777216 + i) / 16777216 = 1 := by omega
    have e2 : (16777216 + i) % 256 = i := by omega
    simp [bitsI, colI, e1, e2]
  · simp only at q1 q2
    subst q1 q2
    have e1 : (33554432 + 65536 * r + 256 * g + b) / 16777216 = 2 := by omega
    have e2 : (33554432 + 65536 * r + 256 * g + b) / 65536 % 256 = r := by omega
    have e3 : (33554432 + 65536 * r + 256 * g + b) / 256 % 256 = g := by omega
    have e4 : (33554432 + 65536 * r + 256 * g + b) % 256 = b := by omega
    simp only [bitsI, colI]
    simp [e1, e2, e3, e4]

theorem col_ok (w : Int) : colOk (colI w) := by
  unfold colI
  split
  · exact .inr (.inl ⟨rfl, rfl, rfl, rfl⟩)
  · split
    · exact .inr (.inr ⟨rfl, rfl⟩)
    · exact .inl ⟨rfl, rfl, rfl, rfl, rfl⟩
theorem byte_mod (x : Int) : Byte (x % 256) := ⟨by omega, by omega⟩
theorem byte_zero : Byte 0 := ⟨by omega, by omega⟩
theorem col_b (w : Int) : ColB (colI w) := by
  unfold colI
  split
  · exact ⟨byte_mod _, byte_zero, byte_zero, byte_zero⟩
  · split
    · exact ⟨byte_zero, byte_mod _, byte_mod _, byte_mod _⟩
    · exact ⟨byte_zero, byte_zero, byte_zero, byte_zero⟩
theorem unpack_ok (w : Int) : penOk (unpackI w) := ⟨col_ok _, col_ok _⟩
theorem unpack_b (w : Int) : PnB (unpackI w) := ⟨col_b _, col_b _, byte_mod _⟩

theorem pack_parts {p : Pn} (h : penOk p) (hb : PnB p) : packI p % 67108864 = bitsI p.f ∧ packI p / 67108864 % 67108864 = bitsI p.b ∧ packI p / 4503599627370496 = p.fl ∧ 0 ≤ packI p ∧ packI p < 1152921504606846976 := by
  have h1 := (bits_bound h.1 hb.f).1; have h2 := (bits_bound h.1 hb.f).2; have h3 := (bits_bound h.2 hb.b).1; have h4 := (bits_bound h.2 hb.b).2
  have h5 := hb.fl.1; have h6 := hb.fl.2
  unfold packI
  omega
theorem unpack_pack {p : Pn} (h : penOk p) (hb : PnB p) : unpackI (packI p) = p := by
  obtain ⟨e1, e2, e3, _, _⟩ := pack_parts h hb
  unfold unpackI
  rw [e1, e2, e3, col_bits h.1 hb.f, col_bits h.2 hb.b]
  have h5 := hb.fl.1; have h6 := hb.fl.2
  rw [show p.fl % 256 = p.fl from by omega]
theorem pack_inj {p q : Pn} (h : penOk p) (hb : PnB p) (h' : penOk q) (hb' : PnB q) (e : packI p = packI q) : p = q := by
  rw [← unpack_pack h hb, e, unpack_pack h' hb']

theorem wraps_u64 (n : Int) (h0 : 0 ≤ n) (h1 : n < 2 ^ 64) : IntKind.u64.wrap n = n := by rw [IntKind.wrap_u64]; omega
theorem or64 (i : Nat) {x y : Int} (hx0 : 0 ≤ x) (hx : x % 2 ^ i = 0) (hx1 : x < 18446744073709551616) (hy0 : 0 ≤ y) (hy : y < 2 ^ i) (hy1 : y < 18446744073709551616) : bits .or .u64 x y = x + y :=
  bits_join .u64 64 (by decide) wraps_u64 i x y hx0 hx (by omega) hy0 hy (by omega)
theorem and64 (i : Nat) {x m : Int} (hi : i ≤ 64) (hm : m = 2 ^ i - 1) (hx0 : 0 ≤ x) (hx1 : x < 18446744073709551616) : bits .and .u64 x m = x % 2 ^ i := by
  rw [hm]
  exact bits_mask .u64 64 (by decide) wraps_u64 i hi x hx0 (by omega)

theorem bits_math {k i r g b : Int} (h : colOk ⟨k, i, r, g, b⟩) (i1 : 0 ≤ i) (i2 : i ≤ 255) (r1 : 0 ≤ r) (r2 : r ≤ 255) (g1 : 0 ≤ g) (g2 : g ≤ 255) (b1 : 0 ≤ b) (b2 : b ≤ 255) :
    bits .or .u64 (bits .or .u64 (bits .or .u64 (bits .or .u64 (IntKind.u64.wrap (IntKind.u64.wrap k * 16777216)) (r * 65536)) (g * 256)) b) i = bitsI ⟨k, i, r, g, b⟩ := by
  have hk : IntKind.u64.wrap (IntKind.u64.wrap k * 16777216) = k * 16777216 ∧ 0 ≤ k ∧ k ≤ 2 := by
    rcases h with ⟨h1, _⟩ | ⟨h1, _⟩ | ⟨h1, _⟩ <;> (simp only at h1; subst h1; decide)
  obtain ⟨e, k0, k2⟩ := hk
  rw [e, or64 24 (x := k * 16777216) (y := r * 65536) (by omega) (by omega) (by omega) (by omega) (by omega) (by omega), or64 16 (x := k * 16777216 + r * 65536) (y := g * 256) (by omega) (by omega) (by omega) (by omega) (by omega) (by omega),
    or64 8 (x := k * 16777216 + r * 65536 + g * 256) (y := b) (by omega) (by omega) (by omega) (by omega) (by omega) (by omega)]
  rcases h with ⟨h1, h2, h3, h4, h5⟩ | ⟨h1, h3, h4, h5⟩ | ⟨h1, h2⟩
  · simp only at h1 h2 h3 h4 h5
    subst h1 h2 h3 h4 h5
    decide
  · simp only at h1 h3 h4 h5
    subst h1 h3 h4 h5
    rw [or64 8 (by omega) (by omega) (by omega) (by omega) (by omega) (by omega)]
    simp [bitsI]
  · simp only at h1 h2
    subst h1 h2
    rw [or64 0 (by omega) (Int.emod_one _) (by omega) (by omega) (by omega) (by omega)]
    have e2 : bitsI ⟨2, 0, r, g, b⟩ = 33554432 + 65536 * r + 256 * g + b := rfl
    rw [e2]
    omega
/-- What Pack and Unpack return: the result, and the error's number. -/
def packE (p : Pn) : Int × Int := if penOk p then (packI p, 0) else (0, 2)
def unpackE (w : Int) : Pn × Int := if packI (unpackI w) = w then (unpackI w, 0) else (zeroP, 12)
theorem pack_math {a b fl : Int} (a0 : 0 ≤ a) (a1 : a < 67108864) (b0 : 0 ≤ b) (b1 : b < 67108864) (f0 : 0 ≤ fl) (f1 : fl ≤ 255) :
    bits .or .u64 (bits .or .u64 a (b * 67108864)) (fl * 4503599627370496) = a + 67108864 * b + 4503599627370496 * fl := by
  have e1 : bits .or .u64 (b * 67108864) a = b * 67108864 + a := or64 26 (by omega) (by omega) (by omega) (by omega) (by omega) (by omega)
  have e2 : bits .or .u64 (fl * 4503599627370496) (b * 67108864 + a) = fl * 4503599627370496 + (b * 67108864 + a) := or64 52 (by omega) (by omega) (by omega) (by omega) (by omega) (by omega)
  have c : ∀ x y : Int, bits .or .u64 x y = bits .or .u64 y x := fun x y => by
    show IntKind.u64.wrap ((BitVec.ofInt 64 x ||| BitVec.ofInt 64 y).toNat : Int) = IntKind.u64.wrap ((BitVec.ofInt 64 y ||| BitVec.ofInt 64 x).toNat : Int)
    rw [BitVec.or_comm]
  rw [c a, e1, c _ (fl * 4503599627370496), e2]
  omega
theorem colI_one {v : Int} (h : v / 16777216 = 1) : colI v = ⟨1, v % 256, 0, 0, 0⟩ := by unfold colI; rw [if_pos h]
theorem colI_two {v : Int} (h : v / 16777216 = 2) : colI v = ⟨2, 0, v / 65536 % 256, v / 256 % 256, v % 256⟩ := by unfold colI; rw [if_neg (by omega), if_pos h]
theorem colI_else {v : Int} (h : v / 16777216 ≠ 1) (h2 : v / 16777216 ≠ 2) : colI v = zeroC := by unfold colI; rw [if_neg h, if_neg h2]
end Go.Proofs.YtnkddhmhjnhgcaaGreatDoor
set_option linter.unusedVariables false
namespace Go.Proofs.YtnkddhmhjnhgcaaGreatDoor

/-- A cell: its rune, its marks, its width, its pen. -/
structure Cl where
  r : Int
  m0 : Int
  m1 : Int
  m2 : Int
  w : Int
  p : Pn
  deriving DecidableEq
def R32 (x : Int) : Prop := -2147483648 ≤ x ∧ x ≤ 2147483647
structure ClB (c : Cl) : Prop where
  r : R32 c.r
  m0 : R32 c.m0
  m1 : R32 c.m1
  m2 : R32 c.m2
  p : PnB c.p
def blankC (p : Pn) : Cl := ⟨0, 0, 0, 0, 1, p⟩
def spacerC (p : Pn) : Cl := ⟨0, 0, 0, 0, 0, p⟩
def zeroK : Cl := spacerC zeroP

def mkI (x : Int) : Bool := decide (ofI x = 0)
def cntI (a b c : Int) : Nat := if mkI a = true then (if mkI b = true then (if mkI c = true then 3 else 2) else 1) else 0
def unmI (a b c : Int) : Bool := decide (a = 0 ∧ b = 0 ∧ c = 0)
def ordI (a b c : Int) : Bool := if mkI a = true then (if mkI b = true then (if mkI c = true then true else decide (c = 0)) else decide (b = 0 ∧ c = 0)) else unmI a b c
def rmkI (a b c : Int) : Nat × Bool :=
  if a = 0 then (0, decide (b = 0 ∧ c = 0)) else if mkI a = false then (0, false) else
  if b = 0 then (1, decide (c = 0)) else if mkI b = false then (1, false) else
  if c = 0 then (2, true) else if mkI c = false then (2, false) else (3, true)
def validC (c : Cl) : Bool := decide (penOk c.p) && (if c.r = 0 then (decide (c.w = 1) || decide (c.w = 0)) && unmI c.m0 c.m1 c.m2 else decide (0 < c.w) && decide (c.w = ofI c.r) && ordI c.m0 c.m1 c.m2)
def rvalidC (c : Cl) : Bool := decide (penOk c.p) && ((rmkI c.m0 c.m1 c.m2).2 &&
  (if c.w = 0 then decide (c.r = 0) && decide ((rmkI c.m0 c.m1 c.m2).1 = 0) else if c.w = 1 then (if c.r = 0 then decide ((rmkI c.m0 c.m1 c.m2).1 = 0) else decide (ofI c.r = 1)) else if c.w = 2 then decide (ofI c.r = 2) else false))

theorem ofI_zero : ofI 0 = -1 := by decide
theorem mkI_zero : mkI 0 = false := by decide
theorem rmk_ord (a b c : Int) : (rmkI a b c).2 = ordI a b c := by
  unfold rmkI ordI unmI
  by_cases h0 : a = 0
  · subst h0; simp [mkI_zero]
  · cases ha : mkI a
    · simp [h0]
    · by_cases h1 : b = 0
      · subst h1; simp [h0, mkI_zero]
      · cases hb : mkI b
        · simp [h0, h1]
        · by_cases h2 : c = 0
          · subst h2; simp [h0, h1, mkI_zero]
          · cases hc : mkI c <;> simp [h0, h1, h2]
theorem rmk_cnt (a b c : Int) (h : ordI a b c = true) : (rmkI a b c).1 = cntI a b c := by
  unfold rmkI cntI
  unfold ordI unmI at h
  by_cases h0 : a = 0
  · subst h0; simp [mkI_zero]
  · cases ha : mkI a
    · simp [h0]
    · by_cases h1 : b = 0
      · subst h1; simp [h0, mkI_zero]
      · cases hb : mkI b
        · simp [h0, h1]
        · by_cases h2 : c = 0
          · subst h2; simp [h0, h1, mkI_zero]
          · cases hc : mkI c <;> simp [h0, h1, h2]
theorem unm_iff (a b c : Int) : unmI a b c = true ↔ (rmkI a b c).2 = true ∧ (rmkI a b c).1 = 0 := by
  unfold rmkI unmI
  by_cases h0 : a = 0
  · subst h0; simp
  · cases ha : mkI a
    · simp [h0]
    · by_cases h1 : b = 0
      · subst h1; simp [h0]
      · cases hb : mkI b
        · simp [h0, h1]
        · by_cases h2 : c = 0
          · subst h2; simp [h0, h1]
          · cases hc : mkI c <;> simp [h0, h1, h2]
theorem rvalidC_is (c : Cl) : rvalidC c = validC c := by
  unfold rvalidC validC
  have hu := unm_iff c.m0 c.m1 c.m2
  rw [rmk_ord] at *
  have hb := ofI_bound c.r
  cases decide (penOk c.p)
  · rfl
  · by_cases hr : c.r = 0
    · have hz : ofI c.r = -1 := by rw [hr]; exact ofI_zero
      simp only [if_pos hr]
      rw [hz, Bool.eq_iff_iff]
      simp only [Bool.true_and, Bool.and_eq_true, Bool.or_eq_true, decide_eq_true_eq]
      by_cases h0 : c.w = 0
      · rw [if_pos h0]; simp [hr, h0, hu]
      · rw [if_neg h0]
        by_cases h1 : c.w = 1
        · rw [if_pos h1]; simp [h1, hu]
        · rw [if_neg h1]
          by_cases h2 : c.w = 2
          · rw [if_pos h2]; simp [h2]
          · rw [if_neg h2]; simp [h0, h1]
    · simp only [if_neg hr]
      rw [Bool.eq_iff_iff]
      simp only [Bool.true_and, Bool.and_eq_true, decide_eq_true_eq]
      by_cases h0 : c.w = 0
      · rw [if_pos h0]; simp [hr, h0]
      · rw [if_neg h0]
        by_cases h1 : c.w = 1
        · rw [if_pos h1, h1]; simp only [decide_eq_true_eq]; constructor <;> rintro h <;> simp_all <;> omega
        · rw [if_neg h1]
          by_cases h2 : c.w = 2
          · rw [if_pos h2, h2]; simp only [decide_eq_true_eq]; constructor <;> rintro h <;> simp_all <;> omega
          · rw [if_neg h2]; simp; intros; omega

/-- What is known of a valid cell. -/
theorem valid_w {c : Cl} (h : validC c = true) : (c.w = 0 ∧ c = spacerC c.p) ∨ c.w = 1 ∨ c.w = 2 := by
  unfold validC at h
  have hb := ofI_bound c.r
  simp only [Bool.and_eq_true, decide_eq_true_eq] at h
  by_cases hr : c.r = 0
  · rw [if_pos hr] at h
    simp [unmI] at h
    obtain ⟨_, h1, h2, h3, h4⟩ := h
    rcases h1 with h1 | h1
    · exact .inr (.inl h1)
    · refine .inl ⟨h1, ?_⟩
      obtain ⟨r, m0, m1, m2, w, p⟩ := c
      simp only at hr h1 h2 h3 h4
      subst hr h1 h2 h3 h4
      rfl
  · rw [if_neg hr] at h
    simp at h
    omega
theorem valid_pen {c : Cl} (h : validC c = true) : penOk c.p := by
  unfold validC at h
  simp only [Bool.and_eq_true, decide_eq_true_eq] at h
  exact h.1
theorem valid_spacer {p : Pn} (h : penOk p) : validC (spacerC p) = true := by
  unfold validC spacerC unmI; simp [h]
theorem valid_blank {p : Pn} (h : penOk p) : validC (blankC p) = true := by
  unfold validC blankC unmI; simp [h]

/-- Rows, by the cell before. -/
def rowFrom (b : Cl) : List Cl → Bool
  | [] => !decide (b.w = 2)
  | c :: l => validC c && (decide (c.w = 0 ↔ b.w = 2) && (!(decide (c.w = 0) && !decide (c.p = b.p)) && rowFrom c l))
def rowI (l : List Cl) : Bool := rowFrom zeroK l
def rrow : List Cl → Bool
  | [] => true
  | [c] => if validC c = false ∨ c.w = 0 then false else if c.w = 1 then true else false
  | c :: d :: l => if validC c = false ∨ c.w = 0 then false else if c.w = 1 then rrow (d :: l) else if d = spacerC c.p then rrow l else false

theorem rowFrom_flat {b : Cl} (h : b.w ≠ 2) (l : List Cl) : rowFrom b l = rowI l := by
  cases l with
  | nil => simp [rowFrom, rowI, h, zeroK, spacerC]
  | cons c l =>
    simp only [rowFrom, rowI]
    by_cases h0 : c.w = 0
    · simp [h0, h, zeroK, spacerC]
    · simp [h0, h, zeroK, spacerC]
theorem rrow_is : ∀ (n : Nat) (l : List Cl), l.length ≤ n → rrow l = rowI l := by
  intro n
  induction n with
  | zero => intro l hl; obtain rfl := List.eq_nil_of_length_eq_zero (Nat.le_zero.1 hl); rfl
  | succ n ih =>
    intro l hl
    cases l with
    | nil => rfl
    | cons c l =>
      have e : rowI (c :: l) = (validC c && (decide (c.w = 0 ↔ (0 : Int) = 2) && (!(decide (c.w = 0) && !decide (c.p = zeroP)) && rowFrom c l))) := rfl
      rw [e]
      cases hv : validC c
      · cases l <;> simp [rrow, hv]
      · rcases valid_w hv with ⟨h0, _⟩ | h1 | h2
        · cases l <;> simp [rrow, h0]
        · rw [rowFrom_flat (by omega), ← ih l (by simp at hl; omega)]
          cases l <;> simp [rrow, h1, hv]
        · cases l with
          | nil => simp [rrow, rowFrom, h2]
          | cons d l' =>
            simp only [rowFrom, rrow, h2, hv]
            by_cases hd : d = spacerC c.p
            · subst hd
              rw [rowFrom_flat (b := spacerC c.p) (by simp [spacerC]), ← ih l' (by simp at hl; omega), valid_spacer (valid_pen hv)]
              simp [spacerC]
            · cases hvd : validC d
              · simp [hd]
              · rcases valid_w hvd with ⟨h0, h0'⟩ | h1 | h2'
                · have : d.p ≠ c.p := fun hp => hd (by rw [h0', hp])
                  simp [hd, h0, this]
                · simp [hd, h1]
                · simp [hd, h2']

/-- Fixing, by the cell before; the reference's. -/
def fixOne (b c : Cl) (s : Bool) : Cl := if b.w = 2 then spacerC b.p else if c.w = 0 then blankC c.p else if c.w = 2 ∧ s = false then blankC c.p else c
def headS : List Cl → Bool
  | [] => false
  | c :: _ => decide (c.w = 0)
def fixGo (b : Cl) : List Cl → List Cl
  | [] => []
  | c :: l => fixOne b c (headS l) :: fixGo (fixOne b c (headS l)) l
def fixI (l : List Cl) : List Cl := fixGo zeroK l
def rfixOne (b c : Cl) (s : Bool) : Cl := if c.w = 0 ∧ b.w = 2 then spacerC b.p else if c.w = 0 then blankC c.p else if c.w = 2 ∧ s = false then blankC c.p else c
/-- A wide cell is left only where a spacer is next. -/
theorem fixOne_wide {b c : Cl} {s : Bool} (h : (fixOne b c s).w = 2) : s = true := by
  unfold fixOne at h
  split at h
  · simp [spacerC] at h
  · split at h
    · simp [blankC] at h
    · split at h
      · simp [blankC] at h
      · rename_i h1 h2 h3
        cases s
        · exact absurd ⟨h, rfl⟩ h3
        · rfl
theorem rfix_same {b c : Cl} {s : Bool} (h : b.w = 2 → c.w = 0) : rfixOne b c s = fixOne b c s := by
  unfold rfixOne fixOne
  by_cases hb : b.w = 2
  · simp [hb, h hb]
  · simp [hb]
theorem fix_len : ∀ (l : List Cl) (b : Cl), (fixGo b l).length = l.length
  | [], _ => rfl
  | c :: l, b => by simp [fixGo, fix_len l]

def okF (b : Cl) : List Cl → Prop
  | [] => b.w ≠ 2
  | c :: l => (c.w = 0 ↔ b.w = 2) ∧ (c.w = 0 → c = spacerC b.p) ∧ okF c l
theorem fix_ok : ∀ (l : List Cl) (b : Cl), (b.w = 2 → headS l = true) → okF b (fixGo b l)
  | [], b, h => fun h2 => by simpa [headS] using h h2
  | c :: l, b, h => by
    refine ⟨?_, ?_, fix_ok l _ fixOne_wide⟩
    · unfold fixOne
      split
      · rename_i hb; simp [spacerC, hb]
      · rename_i hb
        split
        · simp [blankC, hb]
        · split
          · simp [blankC, hb]
          · simp_all
    · unfold fixOne
      split
      · intro _; rfl
      · split
        · simp [blankC]
        · split
          · simp [blankC]
          · simp_all
theorem ok_head {b : Cl} {l : List Cl} (h : okF b l) (h2 : b.w = 2) : headS l = true := by
  cases l with
  | nil => exact absurd h2 h
  | cons c l => simp [headS, h.1.2 h2]
theorem ok_fix : ∀ (l : List Cl) (b : Cl), okF b l → fixGo b l = l
  | [], _, _ => rfl
  | c :: l, b, h => by
    have e : fixOne b c (headS l) = c := by
      unfold fixOne
      split
      · rename_i hb; exact (h.2.1 (h.1.2 hb)).symm
      · rename_i hb
        rw [if_neg (fun h0 => hb (h.1.1 h0)), if_neg]
        rintro ⟨hw, hs⟩
        rw [ok_head h.2.2 hw] at hs
        cases hs
    rw [fixGo, e, ok_fix l c h.2.2]
theorem row_ok : ∀ (l : List Cl) (b : Cl), rowFrom b l = true → okF b l
  | [], b, h => by simpa [rowFrom, okF] using h
  | c :: l, b, h => by
    simp only [rowFrom, Bool.and_eq_true, decide_eq_true_eq] at h
    obtain ⟨hv, h1, h2, h3⟩ := h
    refine ⟨h1, fun h0 => ?_, row_ok l c h3⟩
    rcases valid_w hv with ⟨_, e⟩ | h' | h'
    · have hp : c.p = b.p := by simpa [h0] using h2
      rw [e, hp]
    · omega
    · omega
theorem ok_row : ∀ (l : List Cl) (b : Cl), okF b l → (∀ c ∈ l, validC c = true) → rowFrom b l = true
  | [], b, h, _ => by simpa [rowFrom, okF] using h
  | c :: l, b, h, hv => by
    simp only [rowFrom, Bool.and_eq_true, decide_eq_true_eq]
    refine ⟨hv c (by simp), h.1, ?_, ok_row l c h.2.2 (fun x hx => hv x (by simp [hx]))⟩
    by_cases h0 : c.w = 0
    · have := congrArg Cl.p (h.2.1 h0)
      simp [h0, this, spacerC]
    · simp [h0]
theorem fix_valid : ∀ (l : List Cl) (b : Cl), (b.w = 2 → penOk b.p) → (∀ c ∈ l, validC c = true) → ∀ c ∈ fixGo b l, validC c = true
  | [], _, _, _ => by simp [fixGo]
  | c :: l, b, hb, hv => by
    have h1 : validC (fixOne b c (headS l)) = true := by
      have hc := hv c (by simp)
      unfold fixOne
      split
      · rename_i h2; exact valid_spacer (hb h2)
      · split
        · exact valid_blank (valid_pen hc)
        · split
          · exact valid_blank (valid_pen hc)
          · exact hc
    intro x hx
    rw [fixGo] at hx
    rcases List.mem_cons.1 hx with rfl | hx
    · exact h1
    · exact fix_valid l _ (fun _ => valid_pen h1) (fun y hy => hv y (by simp [hy])) x hx
theorem fix_is_ok (l : List Cl) : okF zeroK (fixI l) := fix_ok l zeroK (by simp [zeroK, spacerC])
theorem fix_fix (l : List Cl) : fixI (fixI l) = fixI l := ok_fix _ _ (fix_is_ok l)
theorem fix_row (l : List Cl) (h : ∀ c ∈ l, validC c = true) : rowI (fixI l) = true := ok_row _ _ (fix_is_ok l) (fix_valid l _ (by simp [zeroK, spacerC]) h)
theorem row_fix (l : List Cl) (h : rowI l = true) : fixI l = l := ok_fix _ _ (row_ok _ _ h)
theorem row_app : ∀ (x y : List Cl) (b : Cl), rowFrom b x = true → rowI y = true → rowFrom b (x ++ y) = true
  | [], y, b, h, hy => by
    rw [List.nil_append, rowFrom_flat (by simpa [rowFrom] using h)]
    exact hy
  | c :: x, y, b, h, hy => by
    simp only [rowFrom, List.cons_append, Bool.and_eq_true] at h ⊢
    exact ⟨h.1, h.2.1, h.2.2.1, row_app x y c h.2.2.2 hy⟩

/-- A rune's cells, a cell with one more mark: the result, and the error's number. -/
def ofC (r : Int) (p : Pn) : Cl := ⟨r, 0, 0, 0, ofI r, p⟩
def setM (c : Cl) (n : Nat) (x : Int) : Cl := match n with | 0 => { c with m0 := x } | 1 => { c with m1 := x } | _ => { c with m2 := x }
def markE (c : Cl) (x : Int) : Cl × Int :=
  if validC c = false ∨ mkI x = false then (zeroK, 2) else if c.r = 0 then (zeroK, 8) else if cntI c.m0 c.m1 c.m2 = 3 then (zeroK, 7) else (setM c (cntI c.m0 c.m1 c.m2) x, 0)
theorem of_valid (r : Int) (p : Pn) : validC (ofC r p) = true ↔ 1 ≤ ofI r ∧ penOk p := by
  unfold validC ofC
  simp only [Bool.and_eq_true, decide_eq_true_eq]
  by_cases hr : r = 0
  · subst hr; rw [ofI_zero]; simp
  · rw [if_neg hr]
    have ho : ordI 0 0 0 = true := by decide
    simp only [ho, and_true, Bool.and_true, Bool.and_eq_true, decide_eq_true_eq]
    constructor
    · rintro ⟨h1, h2⟩; exact ⟨by omega, h1⟩
    · rintro ⟨h1, h2⟩; exact ⟨h2, by omega⟩

/-- The runes of a cell's text; the text; that of several. -/
def nzL (l : List Int) : List Int := l.filter fun x => decide (x ≠ 0)
def textL (c : Cl) : List Int := c.r :: nzL [c.m0, c.m1, c.m2]
def textC (c : Cl) : ByteArray := if c.w = 0 then ⟨#[]⟩ else if c.r = 0 then ⟨#[32]⟩ else runesBytes (textL c)
def textsC (l : List Cl) : List UInt8 := l.flatMap fun c => (textC c).data.toList

end Go.Proofs.YtnkddhmhjnhgcaaGreatDoor
set_option linter.unusedVariables false
namespace Go.Proofs.YtnkddhmhjnhgcaaGreatDoor

/-- The empty cell. -/
def eC : Cl := blankC zeroP
theorem eC_valid : validC eC = true := valid_blank ⟨.inl ⟨rfl, rfl, rfl, rfl, rfl⟩, .inl ⟨rfl, rfl, rfl, rfl, rfl⟩⟩
/-- How many used cells there are. -/
def usedI (l : List Cl) : Nat := (l.reverse.dropWhile fun c => decide (c = eC)).length
def newL (n : Nat) : List Cl := List.replicate n eC
def validL (l : List Cl) : Bool := decide (l.length ≤ 1000) && rowI l
def trimL (l : List Cl) : List Cl := l.take (usedI l)
def fitL (l : List Cl) (n : Nat) : List Cl := fixI (l.take n) ++ List.replicate (n - l.length) eC
def putL (l : List Cl) (at' : Nat) (c : List Cl) : List Cl := fixI (l.take at') ++ c ++ fixI (l.drop (at' + c.length))

theorem used_nil : usedI [] = 0 := rfl
theorem used_snoc (l : List Cl) (c : Cl) : usedI (l ++ [c]) = if c = eC then usedI l else l.length + 1 := by
  unfold usedI
  rw [List.reverse_append, List.reverse_cons, List.reverse_nil, List.nil_append, List.singleton_append, List.dropWhile_cons]
  by_cases h : c = eC
  · simp [h]
  · simp [h]
theorem used_take {l : List Cl} {k : Nat} (hk : k < l.length) : usedI (l.take (k + 1)) = if l[k] = eC then usedI (l.take k) else k + 1 := by
  rw [List.take_succ_eq_append_getElem hk, used_snoc, List.length_take, Nat.min_eq_left (by omega)]
theorem used_le (l : List Cl) : usedI l ≤ l.length := by
  unfold usedI
  have := (List.dropWhile_sublist (l := l.reverse) (fun c => decide (c = eC))).length_le
  simpa using this
theorem used_all (l : List Cl) : usedI l = usedI (l.take l.length) := by rw [List.take_length]
/-- Behind the used cells are empty ones; the last used one is not empty. -/
theorem used_split : ∀ (n : Nat) (l : List Cl), l.length = n → l = l.take (usedI l) ++ List.replicate (n - usedI l) eC ∧ usedI (l.take (usedI l)) = usedI l
  | 0, l, h => by
    obtain rfl := List.eq_nil_of_length_eq_zero h
    exact ⟨rfl, rfl⟩
  | n + 1, l, h => by
    obtain ⟨m, c, rfl⟩ : ∃ m c, l = m ++ [c] := by
      rcases List.eq_nil_or_concat l with h0 | ⟨m, c, hm⟩
      · rw [h0] at h; cases h
      · exact ⟨m, c, by simpa using hm⟩
    have hm : m.length = n := by simpa using h
    have hle := used_le m
    rw [used_snoc]
    by_cases hc : c = eC
    · rw [if_pos hc]
      obtain ⟨h1, h2⟩ := used_split n m hm
      have e : (m ++ [c]).take (usedI m) = m.take (usedI m) := List.take_append_of_le_length hle
      rw [e]
      refine ⟨?_, h2⟩
      rw [show n + 1 - usedI m = (n - usedI m) + 1 by omega, List.replicate_succ', ← List.append_assoc, ← h1, hc]
    · rw [if_neg hc, hm, show n + 1 = (m ++ [c]).length by simp [hm], List.take_length, Nat.sub_self, List.replicate_zero, List.append_nil]
      refine ⟨rfl, ?_⟩
      rw [used_snoc, if_neg hc]
      simp
theorem trim_len (l : List Cl) : (trimL l).length = usedI l := by
  unfold trimL
  rw [List.length_take, Nat.min_eq_left (used_le l)]
theorem trim_trim (l : List Cl) : trimL (trimL l) = trimL l := by
  unfold trimL
  rw [(used_split l.length l rfl).2, List.take_take, Nat.min_self]
theorem used_trim (l : List Cl) : usedI (trimL l) = usedI l := (used_split l.length l rfl).2
theorem used_more : ∀ (l : List Cl) (k : Nat), usedI (l ++ List.replicate k eC) = usedI l
  | l, 0 => by simp
  | l, k + 1 => by rw [List.replicate_succ', ← List.append_assoc, used_snoc, if_pos rfl, used_more l k]
theorem trim_more (l : List Cl) (k : Nat) : trimL (l ++ List.replicate k eC) = trimL l := by
  unfold trimL
  rw [used_more, List.take_append_of_le_length (used_le l)]

/-- Rows and empty cells behind them. -/
theorem empty_row : ∀ (k : Nat) (b : Cl), b.w ≠ 2 → rowFrom b (List.replicate k eC) = true
  | 0, b, h => by simp [rowFrom, h]
  | k + 1, b, h => by
    have ih := empty_row k eC (by decide)
    have hw : eC.w = 1 := rfl
    rw [List.replicate_succ]
    simp only [rowFrom, eC_valid, hw, ih]
    simp [h]
theorem row_cut : ∀ (x : List Cl) (k : Nat) (b : Cl), rowFrom b (x ++ List.replicate k eC) = true → rowFrom b x = true
  | [], 0, b, h => by simpa using h
  | [], k + 1, b, h => by
    rw [List.nil_append, List.replicate_succ] at h
    have hw : eC.w = 1 := rfl
    simp only [rowFrom, hw, Bool.and_eq_true, decide_eq_true_eq] at h
    have h2 : b.w ≠ 2 := fun h2 => by have := h.2.1.2 h2; omega
    simp [rowFrom, h2]
  | c :: x, k, b, h => by
    simp only [rowFrom, List.cons_append, Bool.and_eq_true] at h ⊢
    exact ⟨h.1, h.2.1, h.2.2.1, row_cut x k c h.2.2.2⟩
theorem row_trim {l : List Cl} (h : rowI l = true) : rowI (trimL l) = true := by
  have e := (used_split l.length l rfl).1
  rw [e] at h
  exact row_cut _ _ _ h
theorem row_more {l : List Cl} (h : rowI l = true) (k : Nat) : rowI (l ++ List.replicate k eC) = true := row_app l _ zeroK h (empty_row k zeroK (by decide))
theorem row_new (n : Nat) : rowI (newL n) = true := empty_row n zeroK (by decide)
theorem row_cells : ∀ (l : List Cl) (b : Cl), rowFrom b l = true → ∀ c ∈ l, validC c = true
  | [], _, _ => by simp
  | c :: l, b, h => by
    simp only [rowFrom, Bool.and_eq_true] at h
    intro x hx
    rcases List.mem_cons.1 hx with rfl | hx
    · exact h.1
    · exact row_cells l c h.2.2.2 x hx
theorem fixI_len' (l : List Cl) : (fixI l).length = l.length := fix_len l zeroK
theorem fit_len (l : List Cl) (n : Nat) : (fitL l n).length = n := by
  unfold fitL
  rw [List.length_append, fixI_len', List.length_take, List.length_replicate]
  omega
theorem fit_row {l : List Cl} (h : rowI l = true) (n : Nat) : rowI (fitL l n) = true :=
  row_more (fix_row _ (fun c hc => row_cells l _ h c (List.mem_of_mem_take hc))) _
theorem fit_same {l : List Cl} (h : rowI l = true) : fitL l l.length = l := by
  unfold fitL
  rw [List.take_length, row_fix l h, Nat.sub_self, List.replicate_zero, List.append_nil]
theorem fit_more {l : List Cl} (h : rowI l = true) (k : Nat) : fitL l (l.length + k) = l ++ List.replicate k eC := by
  unfold fitL
  rw [List.take_of_length_le (by omega), row_fix l h, Nat.add_sub_cancel_left]
theorem put_len {l c : List Cl} {at' : Nat} (h : at' + c.length ≤ l.length) : (putL l at' c).length = l.length := by
  unfold putL
  rw [List.length_append, List.length_append, fixI_len', fixI_len', List.length_take, List.length_drop]
  omega
theorem put_row {l c : List Cl} {at' : Nat} (hl : rowI l = true) (hc : rowI c = true) : rowI (putL l at' c) = true := by
  unfold putL
  have h1 := fix_row (l.take at') (fun x hx => row_cells l _ hl x (List.mem_of_mem_take hx))
  have h2 := fix_row (l.drop (at' + c.length)) (fun x hx => row_cells l _ hl x (List.mem_of_mem_drop hx))
  rw [List.append_assoc]
  exact row_app _ _ zeroK h1 (row_app _ _ zeroK hc h2)
theorem put_there {l c : List Cl} {at' : Nat} (h : at' ≤ l.length) : ((putL l at' c).drop at').take c.length = c := by
  have e : (fixI (l.take at')).length = at' := by rw [fixI_len', List.length_take]; omega
  unfold putL
  rw [List.append_assoc, List.drop_append_of_le_length (by omega), List.drop_of_length_le (by omega), List.nil_append, List.take_append_of_le_length (Nat.le_refl _), List.take_length]

/-- What is returned, and the error's number. -/
def newE (n : Int) : List Cl × Int := if 0 ≤ n ∧ n ≤ 1000 then (newL n.toNat, 0) else ([], 2)
def ofL (l : List Cl) (s : Bool) : (List Cl × Bool) × Int := if validL l = true then ((l, s), 0) else (([], false), 2)
def trimE (l : List Cl) (s : Bool) : (List Cl × Bool) × Int := if validL l = true then ((trimL l, s), 0) else (([], false), 2)
def fitE (l : List Cl) (s : Bool) (n : Int) : (List Cl × Bool) × Int := if validL l = true ∧ 0 ≤ n ∧ n ≤ 1000 then ((fitL l n.toNat, s), 0) else (([], false), 2)
def putE (l : List Cl) (s : Bool) (at' : Int) (c : List Cl) : (List Cl × Bool) × Int :=
  if validL l = false ∨ rowI c = false then (([], false), 2) else if at' < 0 ∨ (l.length : Int) < at' + c.length then (([], false), 3) else ((putL l at'.toNat c, s), 0)
end Go.Proofs.YtnkddhmhjnhgcaaGreatDoor
set_option linter.unusedVariables false
namespace Go.Proofs.YtnkddhmhjnhgcaaGreatDoor

/-- A line: its cells, and whether it is soft. -/
structure Ln where
  l : List Cl
  s : Bool
  deriving DecidableEq
def noLn : Ln := ⟨[], false⟩
/-- A page: how many places, how many of them are gone, the lines. -/
structure Sh where
  places : Nat
  gone : Nat
  ls : List Ln
  deriving DecidableEq
def Sh.room (s : Sh) : Nat := s.places - s.gone - s.ls.length
def shOk (s : Sh) : Prop := s.gone + s.ls.length ≤ s.places ∧ ∀ x ∈ s.ls, validL x.l = true
def pushS (s : Sh) (x : Ln) : Sh × Int := if validL x.l = false then (s, 2) else if s.room = 0 then (s, 7) else (⟨s.places, s.gone, s.ls ++ [x]⟩, 0)
def setS (s : Sh) (i : Int) (x : Ln) : Sh × Int := if validL x.l = false then (s, 2) else if i < 0 ∨ (s.ls.length : Int) ≤ i then (s, 3) else (⟨s.places, s.gone, s.ls.set i.toNat x⟩, 0)
def dropS (s : Sh) (n : Int) : Sh × Int := if n < 0 ∨ (s.ls.length : Int) < n then (s, 3) else (⟨s.places, s.gone + n.toNat, s.ls.drop n.toNat⟩, 0)
def popS (s : Sh) : Sh × Ln × Int := if s.ls = [] then (s, noLn, 9) else (⟨s.places, s.gone, s.ls.dropLast⟩, s.ls.getLastD noLn, 0)
def getS (s : Sh) (i : Int) : Ln × Int := if i < 0 ∨ (s.ls.length : Int) ≤ i then (noLn, 3) else (s.ls.getD i.toNat noLn, 0)

theorem push_ok {s : Sh} {x : Ln} (h : shOk s) : shOk (pushS s x).1 := by
  unfold pushS
  split
  · exact h
  · rename_i hv
    split
    · exact h
    · rename_i hr
      refine ⟨?_, fun y hy => ?_⟩
      · have h1 := h.1
        have h2 : s.places - s.gone - s.ls.length ≠ 0 := hr
        simp only [List.length_append, List.length_cons, List.length_nil]
        omega
      · rcases List.mem_append.1 hy with hy | hy
        · exact h.2 y hy
        · simp only [List.mem_singleton] at hy
          subst hy
          simpa using hv
theorem set_ok {s : Sh} {i : Int} {x : Ln} (h : shOk s) : shOk (setS s i x).1 := by
  unfold setS
  split
  · exact h
  · rename_i hv
    split
    · exact h
    · refine ⟨by simpa using h.1, fun y hy => ?_⟩
      rcases List.mem_or_eq_of_mem_set hy with hy | hy
      · exact h.2 y hy
      · subst hy
        simpa using hv
theorem drop_ok {s : Sh} {n : Int} (h : shOk s) : shOk (dropS s n).1 := by
  unfold dropS
  split
  · exact h
  · rename_i hn
    refine ⟨?_, fun y hy => h.2 y (List.mem_of_mem_drop hy)⟩
    have h1 := h.1
    simp only [List.length_drop]
    omega
theorem pop_ok {s : Sh} (h : shOk s) : shOk (popS s).1 := by
  unfold popS
  split
  · exact h
  · refine ⟨?_, fun y hy => h.2 y ((List.dropLast_sublist _).subset hy)⟩
    have h1 := h.1
    simp only [List.length_dropLast]
    omega
/-- Len, Room and Gone are together Cap. -/
theorem sum_ok {s : Sh} (h : shOk s) : s.ls.length + s.room + s.gone = s.places := by
  have := h.1
  unfold Sh.room
  omega
end Go.Proofs.YtnkddhmhjnhgcaaGreatDoor
