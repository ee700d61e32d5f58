/- The chapter's definitions on integers: colors, pens, their words. Nothing of the program is used here. -/
import Derived.WalkKit
import Derived.Laws.BitsLemmas
import Derived.Laws.Bits64
set_option linter.unusedVariables false
namespace Go.Proofs.YtpeedjknjjbabaaDoor

/-- A color: its kind, its index, its parts. -/
structure Col where
  k : Int
  i : Int
  r : Int
  g : Int
  b : Int
  deriving DecidableEq
/-- A pen: both colors, its flags. -/
structure Pn where
  f : Col
  b : Col
  fl : Int
  deriving DecidableEq

def Byte (x : Int) : Prop := 0 ≤ x ∧ x ≤ 255
structure ColB (c : Col) : Prop where
  i : Byte c.i
  r : Byte c.r
  g : Byte c.g
  b : Byte c.b
structure PnB (p : Pn) : Prop where
  f : ColB p.f
  b : ColB p.b
  fl : Byte p.fl

def colOk (c : Col) : Prop := (c.k = 0 ∧ c.i = 0 ∧ c.r = 0 ∧ c.g = 0 ∧ c.b = 0) ∨ (c.k = 1 ∧ c.r = 0 ∧ c.g = 0 ∧ c.b = 0) ∨ (c.k = 2 ∧ c.i = 0)
instance (c : Col) : Decidable (colOk c) := by unfold colOk; infer_instance
theorem colOk_iff (k i r g b : Int) : decide (colOk ⟨k, i, r, g, b⟩) = true ↔ (k = 0 ∧ i = 0 ∧ r = 0 ∧ g = 0 ∧ b = 0) ∨ (k = 1 ∧ r = 0 ∧ g = 0 ∧ b = 0) ∨ (k = 2 ∧ i = 0) := decide_eq_true_iff
theorem beqT {a b : Int} (h : (a == b) = true) : a = b := by simpa using h
theorem beqF {a b : Int} (h : (a == b) = false) : a ≠ b := by simpa using h
def penOk (p : Pn) : Prop := colOk p.f ∧ colOk p.b
instance (p : Pn) : Decidable (penOk p) := by unfold penOk; infer_instance

/-- The bits of a color; the word of a pen. -/
def bitsI (c : Col) : Int := if c.k = 1 then 16777216 + c.i else if c.k = 2 then 33554432 + 65536 * c.r + 256 * c.g + c.b else 0
def packI (p : Pn) : Int := bitsI p.f + 67108864 * bitsI p.b + 4503599627370496 * p.fl
def zeroC : Col := ⟨0, 0, 0, 0, 0⟩
def zeroP : Pn := ⟨zeroC, zeroC, 0⟩
/-- The color with these bits, the pen of a word. -/
def colI (w : Int) : Col := if w / 16777216 = 1 then ⟨1, w % 256, 0, 0, 0⟩ else if w / 16777216 = 2 then ⟨2, 0, w / 65536 % 256, w / 256 % 256, w % 256⟩ else zeroC
def unpackI (w : Int) : Pn := ⟨colI (w % 67108864), colI (w / 67108864 % 67108864), w / 4503599627370496 % 256⟩

theorem bits_bound {c : Col} (h : colOk c) (hb : ColB c) : 0 ≤ bitsI c ∧ bitsI c < 67108864 := by
  have h1 := hb.i.1; have h2 := hb.i.2; have h3 := hb.r.1; have h4 := hb.r.2; have h5 := hb.g.1; have h6 := hb.g.2; have h7 := hb.b.1; have h8 := hb.b.2
  unfold bitsI
  split
  · omega
  · split <;> omega

theorem col_bits {c : Col} (h : colOk c) (hb : ColB c) : colI (bitsI c) = c := by
  have h1 := hb.i.1; have h2 := hb.i.2; have h3 := hb.r.1; have h4 := hb.r.2; have h5 := hb.g.1; have h6 := hb.g.2; have h7 := hb.b.1; have h8 := hb.b.2
  obtain ⟨k, i, r, g, b⟩ := c
  simp only at h1 h2 h3 h4 h5 h6 h7 h8
  rcases h with ⟨q1, q2, q3, q4, q5⟩ | ⟨q1, q3, q4, q5⟩ | ⟨q1, q2⟩
  · simp only at q1 q2 q3 q4 q5; subst q1 q2 q3 q4 q5; rfl
  · simp only at q1 q3 q4 q5
    subst q1 q3 q4 q5
    have e1 : (16777216 + i) / 16777216 = 1 := by omega
    have e2 : (16777216 + i) % 256 = i := by omega
    simp [bitsI, colI, e1, e2]
  · simp only at q1 q2
    subst q1 q2
    have e1 : (33554432 + 65536 * r + 256 * g + b) / 16777216 = 2 := by omega
    have e2 : (33554432 + 65536 * r + 256 * g + b) / 65536 % 256 = r := by omega
    have e3 : (33554432 + 65536 * r + 256 * g + b) / 256 % 256 = g := by omega
    have e4 : (33554432 + 65536 * r + 256 * g + b) % 256 = b := by omega
    simp only [bitsI, colI]
    simp [e1, e2, e3, e4]

theorem col_ok (w : Int) : colOk (colI w) := by
  unfold colI
  split
  · exact .inr (.inl ⟨rfl, rfl, rfl, rfl⟩)
  · split
    · exact .inr (.inr ⟨rfl, rfl⟩)
    · exact .inl ⟨rfl, rfl, rfl, rfl, rfl⟩
theorem byte_mod (x : Int) : Byte (x % 256) := ⟨by omega, by omega⟩
theorem byte_zero : Byte 0 := ⟨by omega, by omega⟩
theorem col_b (w : Int) : ColB (colI w) := by
  unfold colI
  split
  · exact ⟨byte_mod _, byte_zero, byte_zero, byte_zero⟩
  · split
    · exact ⟨byte_zero, byte_mod _, byte_mod _, byte_mod _⟩
    · exact ⟨byte_zero, byte_zero, byte_zero, byte_zero⟩
theorem unpack_ok (w : Int) : penOk (unpackI w) := ⟨col_ok _, col_ok _⟩
theorem unpack_b (w : Int) : PnB (unpackI w) := ⟨col_b _, col_b _, byte_mod _⟩

theorem pack_parts {p : Pn} (h : penOk p) (hb : PnB p) : packI p % 67108864 = bitsI p.f ∧ packI p / 67108864 % 67108864 = bitsI p.b ∧ packI p / 4503599627370496 = p.fl ∧ 0 ≤ packI p ∧ packI p < 1152921504606846976 := by
  have h1 := (bits_bound h.1 hb.f).1; have h2 := (bits_bound h.1 hb.f).2; have h3 := (bits_bound h.2 hb.b).1; have h4 := (bits_bound h.2 hb.b).2
  have h5 := hb.fl.1; have h6 := hb.fl.2
  unfold packI
  omega
theorem unpack_pack {p : Pn} (h : penOk p) (hb : PnB p) : unpackI (packI p) = p := by
  obtain ⟨e1, e2, e3, _, _⟩ := pack_parts h hb
  unfold unpackI
  rw [e1, e2, e3, col_bits h.1 hb.f, col_bits h.2 hb.b]
  have h5 := hb.fl.1; have h6 := hb.fl.2
  rw [show p.fl % 256 = p.fl from by omega]
theorem pack_inj {p q : Pn} (h : penOk p) (hb : PnB p) (h' : penOk q) (hb' : PnB q) (e : packI p = packI q) : p = q := by
  rw [← unpack_pack h hb, e, unpack_pack h' hb']

theorem wraps_u64 (n : Int) (h0 : 0 ≤ n) (h1 : n < 2 ^ 64) : IntKind.u64.wrap n = n := by rw [IntKind.wrap_u64]; omega
theorem or64 (i : Nat) {x y : Int} (hx0 : 0 ≤ x) (hx : x % 2 ^ i = 0) (hx1 : x < 18446744073709551616) (hy0 : 0 ≤ y) (hy : y < 2 ^ i) (hy1 : y < 18446744073709551616) : bits .or .u64 x y = x + y :=
  bits_join .u64 64 (by decide) wraps_u64 i x y hx0 hx (by omega) hy0 hy (by omega)
theorem and64 (i : Nat) {x m : Int} (hi : i ≤ 64) (hm : m = 2 ^ i - 1) (hx0 : 0 ≤ x) (hx1 : x < 18446744073709551616) : bits .and .u64 x m = x % 2 ^ i := by
  rw [hm]
  exact bits_mask .u64 64 (by decide) wraps_u64 i hi x hx0 (by omega)

theorem bits_math {k i r g b : Int} (h : colOk ⟨k, i, r, g, b⟩) (i1 : 0 ≤ i) (i2 : i ≤ 255) (r1 : 0 ≤ r) (r2 : r ≤ 255) (g1 : 0 ≤ g) (g2 : g ≤ 255) (b1 : 0 ≤ b) (b2 : b ≤ 255) :
    bits .or .u64 (bits .or .u64 (bits .or .u64 (bits .or .u64 (IntKind.u64.wrap (IntKind.u64.wrap k * 16777216)) (r * 65536)) (g * 256)) b) i = bitsI ⟨k, i, r, g, b⟩ := by
  have hk : IntKind.u64.wrap (IntKind.u64.wrap k * 16777216) = k * 16777216 ∧ 0 ≤ k ∧ k ≤ 2 := by
    rcases h with ⟨h1, _⟩ | ⟨h1, _⟩ | ⟨h1, _⟩ <;> (simp only at h1; subst h1; decide)
  obtain ⟨e, k0, k2⟩ := hk
  rw [e, or64 24 (x := k * 16777216) (y := r * 65536) (by omega) (by omega) (by omega) (by omega) (by omega) (by omega), or64 16 (x := k * 16777216 + r * 65536) (y := g * 256) (by omega) (by omega) (by omega) (by omega) (by omega) (by omega),
    or64 8 (x := k * 16777216 + r * 65536 + g * 256) (y := b) (by omega) (by omega) (by omega) (by omega) (by omega) (by omega)]
  rcases h with ⟨h1, h2, h3, h4, h5⟩ | ⟨h1, h3, h4, h5⟩ | ⟨h1, h2⟩
  · simp only at h1 h2 h3 h4 h5
    subst h1 h2 h3 h4 h5
    decide
  · simp only at h1 h3 h4 h5
    subst h1 h3 h4 h5
    rw [or64 8 (by omega) (by omega) (by omega) (by omega) (by omega) (by omega)]
    simp [bitsI]
  · simp only at h1 h2
    subst h1 h2
    rw [or64 0 (by omega) (Int.emod_one _) (by omega) (by omega) (by omega) (by omega)]
    have e2 : bitsI ⟨2, 0, r, g, b⟩ = 33554432 + 65536 * r + 256 * g + b := rfl
    rw [e2]
    omega
/-- What Pack and Unpack return: the result, and the error's number. -/
def packE (p : Pn) : Int × Int := if penOk p then (packI p, 0) else (0, 2)
def unpackE (w : Int) : Pn × Int := if packI (unpackI w) = w then (unpackI w, 0) else (zeroP, 12)
theorem pack_math {a b fl : Int} (a0 : 0 ≤ a) (a1 : a < 67108864) (b0 : 0 ≤ b) (b1 : b < 67108864) (f0 : 0 ≤ fl) (f1 : fl ≤ 255) :
    bits .or .u64 (bits .or .u64 a (b * 67108864)) (fl * 4503599627370496) = a + 67108864 * b + 4503599627370496 * fl := by
  have e1 : bits .or .u64 (b * 67108864) a = b * 67108864 + a := or64 26 (by omega) (by omega) (by omega) (by omega) (by omega) (by omega)
  have e2 : bits .or .u64 (fl * 4503599627370496) (b * 67108864 + a) = fl * 4503599627370496 + (b * 67108864 + a) := or64 52 (by omega) (by omega) (by omega) (by omega) (by omega) (by omega)
  have c : ∀ x y : Int, bits .or .u64 x y = bits .or .u64 y x := fun x y => by
    show IntKind.u64.wrap ((BitVec.ofInt 64 x ||| BitVec.ofInt 64 y).toNat : Int) = IntKind.u64.wrap ((BitVec.ofInt 64 y ||| BitVec.ofInt 64 x).toNat : Int)
    rw [BitVec.or_comm]
  rw [c a, e1, c _ (fl * 4503599627370496), e2]
  omega
theorem colI_one {v : Int} (h : v / 16777216 = 1) : colI v = ⟨1, v % 256, 0, 0, 0⟩ := by unfold colI; rw [if_pos h]
theorem colI_two {v : Int} (h : v / 16777216 = 2) : colI v = ⟨2, 0, v / 65536 % 256, v / 256 % 256, v % 256⟩ := by unfold colI; rw [if_neg (by omega), if_pos h]
theorem colI_else {v : Int} (h : v / 16777216 ≠ 1) (h2 : v / 16777216 ≠ 2) : colI v = zeroC := by unfold colI; rw [if_neg h, if_neg h2]
end Go.Proofs.YtpeedjknjjbabaaDoor
