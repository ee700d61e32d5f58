/- The texts of places, on lists of bytes; nothing of the program is used here. -/
import Derived.Test.YtnkddhmhjnhgcaaDoorPlMath
import Derived.Lib.ItoaMem
import Derived.Lib.AtoiAllCases
import Derived.Lib.IndexMore
namespace Go.Proofs.YtnkddhmhjnhgcaaDoor
set_option linter.unusedVariables false
set_option linter.unusedSimpArgs false

def decB (n : Int) : List UInt8 := Lib.decDigits n.toNat
/-- The text of a place, or that there is none. -/
def textL (p : Pl) : List UInt8 := decB p.l ++ 58 :: decB p.c
def textE (p : Pl) : List UInt8 × Int := if vP p = true then (textL p, 0) else ([], 2)
def numA (l : List UInt8) : Int := match Lib.atoiAll l with
  | .ok v => v
  | .syntax => 0
  | .range => Lib.atoiSat l
def cutA (s : List UInt8) : Pl := ⟨numA (Lib.cut s [58]).1, numA (Lib.cut s [58]).2.1⟩
def parseE (s : List UInt8) : Pl × Int := if textE (cutA s) = (s, 0) then (cutA s, 0) else (p0, 6)

theorem dec_small {u : Nat} (h : u < 10) : Lib.decDigits u = [UInt8.ofNat (48 + u)] := Lib.decDigits_one h
theorem dec_big {u : Nat} (h : ¬ u < 10) : Lib.decDigits u = Lib.decDigits (u / 10) ++ [UInt8.ofNat (48 + u % 10)] := by rw [Lib.decDigits, dif_neg h]
theorem byte_dig {d : Nat} (h : d < 10) : (UInt8.ofNat (48 + d)).toNat = 48 + d := by
  rw [UInt8.toNat_ofNat']; omega
theorem dec_digits (u : Nat) : ∀ b ∈ Lib.decDigits u, 48 ≤ b.toNat ∧ b.toNat ≤ 57 := by
  induction u using Nat.strongRecOn with
  | _ u ih =>
    by_cases h : u < 10
    · rw [dec_small h]
      intro b hb
      simp only [List.mem_singleton] at hb
      subst hb
      rw [byte_dig h]
      omega
    · rw [dec_big h]
      intro b hb
      rcases List.mem_append.1 hb with hb | hb
      · exact ih (u / 10) (by omega) b hb
      · simp only [List.mem_singleton] at hb
        subst hb
        rw [byte_dig (Nat.mod_lt _ (by decide))]
        omega
theorem dec_ne (u : Nat) : Lib.decDigits u ≠ [] := by
  by_cases h : u < 10
  · rw [dec_small h]; simp
  · rw [dec_big h]; simp
theorem parse_app : ∀ (l r : List UInt8) (acc m : Nat), Lib.parseUint10 acc l = .ok m → Lib.parseUint10 acc (l ++ r) = Lib.parseUint10 m r
  | [], r, acc, m, h => by
    simp only [Lib.parseUint10] at h
    injection h with h
    rw [h]; rfl
  | c :: l, r, acc, m, h => by
    simp only [List.cons_append, Lib.parseUint10] at h ⊢
    split at h
    · split at h
      · cases h
      · split at h
        · cases h
        · rename_i h1 h2 h3
          rw [if_pos h1, if_neg h2, if_neg h3]
          exact parse_app l r _ m h
    · cases h
theorem parse_dec (u : Nat) : u < 9223372036854775808 → Lib.parseUint10 0 (Lib.decDigits u) = .ok u := by
  induction u using Nat.strongRecOn with
  | _ u ih =>
    intro hu
    by_cases h : u < 10
    · rw [dec_small h]
      simp only [Lib.parseUint10, byte_dig h]
      rw [if_pos (by omega), if_neg (by omega), if_neg (by omega)]
      congr 1
      omega
    · rw [dec_big h, parse_app _ _ _ _ (ih (u / 10) (by omega) (by omega))]
      simp only [Lib.parseUint10, byte_dig (Nat.mod_lt u (by decide : 0 < 10))]
      rw [if_pos (by omega), if_neg (by omega), if_neg (by omega)]
      congr 1
      omega
theorem atoi_dec (u : Nat) (hu : u < 9223372036854775808) : Lib.atoiAll (Lib.decDigits u) = .ok (u : Int) := by
  have hp := parse_dec u hu
  have hd := dec_digits u
  have hne := dec_ne u
  generalize Lib.decDigits u = l at *
  match l, hne with
  | c :: r, _ =>
    have hc := hd c (by simp)
    rw [Lib.atoiAll_plain c r (by omega) (by omega)]
    unfold Lib.parseMag
    rw [if_neg (by simp), hp]
    unfold Lib.signless
    simp only
    rw [if_neg (by omega)]
theorem cut_at (A B : List UInt8) (hA : ∀ b ∈ A, b ≠ 58) : Lib.cut (A ++ 58 :: B) [58] = (A, B, true) := by
  have key : Lib.index (A ++ 58 :: B) [58] = (A.length : Int) := by
    rcases Lib.index_spec (A ++ 58 :: B) [58] with ⟨_, h⟩ | ⟨i, h1, h2, h3, h4⟩
    · have := h A.length (by simp)
      simp [Lib.occAt, List.drop_append] at this
    · rw [h1]
      have h5 : ¬ i < A.length := by
        intro hi
        unfold Lib.occAt at h3
        rw [List.drop_append_of_le_length (by omega), List.drop_eq_getElem_cons hi] at h3
        simp only [List.cons_append, List.isPrefixOf, Bool.and_true, beq_iff_eq] at h3
        exact hA _ (List.getElem_mem hi) h3.symm
      have h6 : ¬ A.length < i := by
        intro hi
        have := h4 A.length hi
        simp [Lib.occAt, List.drop_append] at this
      omega
  unfold Lib.cut
  rw [key, if_pos (by omega)]
  simp
theorem text_cut {p : Pl} (h : vP p = true) : cutA (textL p) = p := by
  have hp := (vP_iff p).1 h
  have hd : ∀ n : Int, ∀ b ∈ decB n, b ≠ 58 := fun n b hb he => by
    have := dec_digits _ b hb
    subst he
    revert this
    decide
  unfold cutA textL
  rw [cut_at _ _ (hd _)]
  obtain ⟨l, c⟩ := p
  simp only at hp
  simp only [numA, decB, atoi_dec l.toNat (by omega), atoi_dec c.toNat (by omega)]
  rw [show ((l.toNat : Nat) : Int) = l by omega, show ((c.toNat : Nat) : Int) = c by omega]
theorem parse_text {p : Pl} (h : vP p = true) : parseE (textL p) = (p, 0) := by
  unfold parseE
  rw [text_cut h, textE, if_pos h, if_pos rfl]
theorem parse_ok {s : List UInt8} {p : Pl} (h : parseE s = (p, 0)) : vP p = true ∧ textL p = s := by
  unfold parseE at h
  by_cases g : textE (cutA s) = (s, 0)
  · rw [if_pos g] at h
    injection h with h1 _
    rw [h1] at g
    unfold textE at g
    by_cases hv : vP p = true
    · rw [if_pos hv] at g
      injection g with g1 _
      exact ⟨hv, g1⟩
    · rw [if_neg hv] at g
      injection g with _ g2
      cases g2
  · rw [if_neg g] at h
    injection h with _ h2
    cases h2
theorem parse_cases (s : List UInt8) : (∃ p, parseE s = (p, 0)) ∨ parseE s = (p0, 6) := by
  unfold parseE
  split
  · exact .inl ⟨_, rfl⟩
  · exact .inr rfl

/-- The reference's reading: which part, and both numbers. -/
structure Sc where
  q : Nat
  a : Int
  b : Int
def stp (s : Sc) (c : UInt8) : Option Sc :=
  if c.toNat = 58 then (if s.q = 0 then some ⟨1, s.a, s.b⟩ else none)
  else if c.toNat < 48 ∨ 57 < c.toNat ∨ 1099511627776 < (if s.q = 0 then s.a else s.b) then none
  else if s.q = 0 then some ⟨0, 10 * s.a + ((c.toNat - 48 : Nat) : Int), s.b⟩ else some ⟨1, s.a, 10 * s.b + ((c.toNat - 48 : Nat) : Int)⟩
def scan : List UInt8 → Sc → Option Sc
  | [], s => some s
  | c :: l, s => (stp s c).bind (scan l)
theorem scan_app : ∀ (l r : List UInt8) (s : Sc), scan (l ++ r) s = (scan l s).bind (scan r)
  | [], _, _ => rfl
  | c :: l, r, s => by
    simp only [List.cons_append, scan]
    cases stp s c with
    | none => rfl
    | some t => exact scan_app l r t
theorem scan_dec0 (u : Nat) : u ≤ 1099511627776 → ∀ b, scan (Lib.decDigits u) ⟨0, 0, b⟩ = some ⟨0, u, b⟩ := by
  induction u using Nat.strongRecOn with
  | _ u ih =>
    intro hu b
    by_cases h : u < 10
    · rw [dec_small h]
      simp only [scan, stp, byte_dig h]
      rw [if_neg (by omega), if_neg (by simp only [if_pos]; omega), if_pos trivial]
      simp only [Option.bind_some]
      congr 2
      omega
    · rw [dec_big h, scan_app, ih (u / 10) (by omega) (by omega)]
      simp only [Option.bind_some, scan, stp, byte_dig (Nat.mod_lt u (by decide : 0 < 10))]
      rw [if_neg (by omega), if_neg (by simp only [if_pos]; omega), if_pos trivial]
      simp only [Option.bind_some]
      congr 2
      omega
theorem scan_dec1 (u : Nat) : u ≤ 1099511627776 → ∀ a, scan (Lib.decDigits u) ⟨1, a, 0⟩ = some ⟨1, a, u⟩ := by
  induction u using Nat.strongRecOn with
  | _ u ih =>
    intro hu a
    by_cases h : u < 10
    · rw [dec_small h]
      simp only [scan, stp, byte_dig h]
      rw [if_neg (by omega), if_neg (by simp; omega), if_neg (by decide)]
      simp only [Option.bind_some]
      congr 2
      omega
    · rw [dec_big h, scan_app, ih (u / 10) (by omega) (by omega)]
      simp only [Option.bind_some, scan, stp, byte_dig (Nat.mod_lt u (by decide : 0 < 10))]
      rw [if_neg (by omega), if_neg (by simp; omega), if_neg (by decide)]
      simp only [Option.bind_some]
      congr 2
      omega
theorem scan_text {p : Pl} (h : vP p = true) : scan (textL p) ⟨0, 0, 0⟩ = some ⟨1, p.l, p.c⟩ := by
  have hp := (vP_iff p).1 h
  unfold textL decB
  rw [scan_app, scan_dec0 _ (by omega)]
  simp only [Option.bind_some, scan, stp]
  rw [if_pos (by decide), if_pos trivial]
  simp only [Option.bind_some]
  rw [scan_dec1 _ (by omega)]
  congr 2 <;> omega
/-- What the reference reads is what the chapter asks. -/
theorem parse_none {s : List UInt8} (h : scan s ⟨0, 0, 0⟩ = none) : parseE s = (p0, 6) := by
  rcases parse_cases s with ⟨p, e⟩ | e
  · obtain ⟨h1, h2⟩ := parse_ok e
    rw [← h2, scan_text h1] at h
    cases h
  · exact e
theorem parse_some {s : List UInt8} {q : Nat} {a b : Int} (h : scan s ⟨0, 0, 0⟩ = some ⟨q, a, b⟩) : parseE s = if vP ⟨a, b⟩ = true ∧ textL ⟨a, b⟩ = s then (⟨a, b⟩, 0) else (p0, 6) := by
  by_cases g : vP ⟨a, b⟩ = true ∧ textL ⟨a, b⟩ = s
  · rw [if_pos g]
    have := parse_text g.1
    rwa [g.2] at this
  · rw [if_neg g]
    rcases parse_cases s with ⟨p, e⟩ | e
    · obtain ⟨h1, h2⟩ := parse_ok e
      rw [← h2, scan_text h1] at h
      injection h with h
      injection h with _ h3 h4
      exact absurd ⟨by rw [← h3, ← h4]; exact h1, by rw [← h3, ← h4]; exact h2⟩ g
    · exact e
/-- The numbers stay small. -/
theorem stp_bound {s t : Sc} {c : UInt8} (h : stp s c = some t) (h1 : s.q ≤ 1 ∧ 0 ≤ s.a ∧ s.a ≤ 10995116277769 ∧ 0 ≤ s.b ∧ s.b ≤ 10995116277769) : t.q ≤ 1 ∧ 0 ≤ t.a ∧ t.a ≤ 10995116277769 ∧ 0 ≤ t.b ∧ t.b ≤ 10995116277769 := by
  unfold stp at h
  by_cases h2 : c.toNat = 58
  · rw [if_pos h2] at h
    by_cases h3 : s.q = 0
    · rw [if_pos h3] at h
      injection h with h
      subst h
      simp only
      omega
    · rw [if_neg h3] at h
      cases h
  · rw [if_neg h2] at h
    by_cases h3 : s.q = 0
    · rw [if_pos h3, if_pos h3] at h
      by_cases h4 : c.toNat < 48 ∨ 57 < c.toNat ∨ 1099511627776 < s.a
      · rw [if_pos h4] at h
        cases h
      · rw [if_neg h4] at h
        injection h with h
        subst h
        simp only
        omega
    · rw [if_neg h3, if_neg h3] at h
      by_cases h4 : c.toNat < 48 ∨ 57 < c.toNat ∨ 1099511627776 < s.b
      · rw [if_pos h4] at h
        cases h
      · rw [if_neg h4] at h
        injection h with h
        subst h
        simp only
        omega
end Go.Proofs.YtnkddhmhjnhgcaaDoor
