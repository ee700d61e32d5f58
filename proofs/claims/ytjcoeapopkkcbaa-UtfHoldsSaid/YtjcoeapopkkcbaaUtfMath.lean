/- Layer 1 on integers: which bytes go on, what is pending after a byte, and which runes are there. -/
namespace Go.Proofs.Ytjcoeapopkkcbaa

def sizeI (c : Int) : Int := if c < 128 then 1 else if c < 194 then 0 else if c < 224 then 2 else if c < 240 then 3 else if c < 245 then 4 else 0
def validI (r : Int) : Bool := decide (0 ≤ r ∧ r ≤ 1114111 ∧ (r < 55296 ∨ 57343 < r))
def furtherB (c : Int) : Bool := decide (128 ≤ c ∧ c < 192)
def lengthI (r : Int) : Int := if r < 128 then 1 else if r < 2048 then 2 else if r < 65536 then 3 else 4
def loI (c : Int) : Int := if c = 224 then 160 else if c = 240 then 144 else 128
def hiI (c : Int) : Int := if c = 237 then 159 else if c = 244 then 143 else 191
def fbI (c : Int) : Int := if c < 224 then c - 192 else if c < 240 then c - 224 else c - 240

theorem fb_cases (c : Int) (h : 194 ≤ c ∧ c < 245) : (194 ≤ c ∧ c < 224 ∧ sizeI c = 2 ∧ fbI c = c % 32) ∨ (224 ≤ c ∧ c < 240 ∧ sizeI c = 3 ∧ fbI c = c % 16) ∨ (240 ≤ c ∧ c < 245 ∧ sizeI c = 4 ∧ fbI c = c % 8) := by
  unfold sizeI fbI
  by_cases h1 : c < 224
  · refine .inl ⟨h.1, h1, ?_, ?_⟩ <;> repeat (first | rw [if_pos (by omega)] | rw [if_neg (by omega)] | omega)
  · by_cases h2 : c < 240
    · refine .inr (.inl ⟨by omega, h2, ?_, ?_⟩) <;> repeat (first | rw [if_pos (by omega)] | rw [if_neg (by omega)] | omega)
    · refine .inr (.inr ⟨by omega, h.2, ?_, ?_⟩) <;> repeat (first | rw [if_pos (by omega)] | rw [if_neg (by omega)] | omega)

/-- Whether a byte goes on with pending ones. -/
def goesB (p : List Int) (c : Int) : Bool :=
  match p with
  | [] => false
  | [x] => decide (loI x ≤ c ∧ c ≤ hiI x)
  | _ => decide (128 ≤ c ∧ c ≤ 191)

def endR (p : List Int) : List Int := if p = [] then [] else [65533]

/-- The rune with these bytes, all of them. -/
def runeI (p : List Int) : Int :=
  match p with
  | [x, v] => fbI x * 64 + v % 64
  | [x, y, v] => (fbI x * 64 + y % 64) * 64 + v % 64
  | [x, y, z, v] => ((fbI x * 64 + y % 64) * 64 + z % 64) * 64 + v % 64
  | _ => 0

/-- What is pending after a byte, and which runes are there then. -/
def stepP (p : List Int) (c : Int) : List Int :=
  if goesB p c = true then (if (p.length : Int) + 1 < sizeI (p.headD 0) then p ++ [c] else []) else if 2 ≤ sizeI c then [c] else []
def stepR (p : List Int) (c : Int) : List Int :=
  if goesB p c = true then (if (p.length : Int) + 1 < sizeI (p.headD 0) then [] else [runeI (p ++ [c])])
  else endR p ++ (if sizeI c = 0 then [65533] else if sizeI c = 1 then [c] else [])

/-- What may be pending. -/
def Inv (p : List Int) : Prop :=
  match p with
  | [] => True
  | [x] => 194 ≤ x ∧ x < 245
  | [x, y] => 224 ≤ x ∧ x < 245 ∧ loI x ≤ y ∧ y ≤ hiI x
  | [x, y, z] => 240 ≤ x ∧ x < 245 ∧ loI x ≤ y ∧ y ≤ hiI x ∧ 128 ≤ z ∧ z ≤ 191
  | _ => False

theorem size_cases (c : Int) : (c < 128 ∧ sizeI c = 1) ∨ (128 ≤ c ∧ c < 194 ∧ sizeI c = 0) ∨ (194 ≤ c ∧ c < 224 ∧ sizeI c = 2) ∨ (224 ≤ c ∧ c < 240 ∧ sizeI c = 3) ∨ (240 ≤ c ∧ c < 245 ∧ sizeI c = 4) ∨ (245 ≤ c ∧ sizeI c = 0) := by
  unfold sizeI
  by_cases h1 : c < 128
  · exact .inl ⟨h1, by rw [if_pos h1]⟩
  by_cases h2 : c < 194
  · exact .inr (.inl ⟨by omega, h2, by rw [if_neg h1, if_pos h2]⟩)
  by_cases h3 : c < 224
  · exact .inr (.inr (.inl ⟨by omega, h3, by rw [if_neg h1, if_neg h2, if_pos h3]⟩))
  by_cases h4 : c < 240
  · exact .inr (.inr (.inr (.inl ⟨by omega, h4, by rw [if_neg h1, if_neg h2, if_neg h3, if_pos h4]⟩)))
  by_cases h5 : c < 245
  · exact .inr (.inr (.inr (.inr (.inl ⟨by omega, h5, by rw [if_neg h1, if_neg h2, if_neg h3, if_neg h4, if_pos h5]⟩))))
  · exact .inr (.inr (.inr (.inr (.inr ⟨by omega, by rw [if_neg h1, if_neg h2, if_neg h3, if_neg h4, if_neg h5]⟩))))

theorem lohi (x : Int) : 128 ≤ loI x ∧ loI x ≤ 160 ∧ 143 ≤ hiI x ∧ hiI x ≤ 191 := by
  unfold loI hiI
  by_cases h1 : x = 224 <;> by_cases h2 : x = 240 <;> by_cases h3 : x = 237 <;> by_cases h4 : x = 244 <;> simp [h1, h2, h3, h4] <;> omega

theorem Inv.byte {p : List Int} (h : Inv p) : ∀ x ∈ p, 0 ≤ x ∧ x ≤ 255 := by
  match p, h with
  | [], _ => simp
  | [x], h =>
    simp only [Inv] at h
    intro y hy
    simp at hy
    omega
  | [x, y], h =>
    simp only [Inv] at h
    have := lohi x
    intro z hz
    simp at hz
    omega
  | [x, y, z], h =>
    simp only [Inv] at h
    have := lohi x
    intro u hu
    simp at hu
    omega

theorem Inv.len {p : List Int} (h : Inv p) : p.length ≤ 3 := by
  match p, h with
  | [], _ => simp
  | [x], _ => simp
  | [x, y], _ => simp
  | [x, y, z], _ => simp

theorem Inv.step {p : List Int} (h : Inv p) (c : Int) : Inv (stepP p c) := by
  unfold stepP
  by_cases hg : goesB p c = true
  · rw [if_pos hg]
    split
    · rename_i hm
      match p, h with
      | [], _ => simp [goesB] at hg
      | [x], h =>
        simp only [Inv] at h
        simp [goesB] at hg
        simp at hm
        show Inv [x, c]
        simp only [Inv]
        have := size_cases x
        omega
      | [x, y], h =>
        simp only [Inv] at h
        simp [goesB] at hg
        simp at hm
        show Inv [x, y, c]
        simp only [Inv]
        have := size_cases x
        omega
      | [x, y, z], h =>
        simp only [Inv] at h
        simp at hm
        have := size_cases x
        omega
    · exact True.intro
  · rw [if_neg hg]
    split
    · show Inv [c]
      simp only [Inv]
      have := size_cases c
      omega
    · exact True.intro

/-- The same for bytes, one after the other. -/
def feedP (p : List Int) : List Int → List Int
  | [] => p
  | c :: cs => feedP (stepP p c) cs
def feedR (p : List Int) : List Int → List Int
  | [] => []
  | c :: cs => stepR p c ++ feedR (stepP p c) cs

theorem feedP_append (xs ys : List Int) : ∀ p, feedP p (xs ++ ys) = feedP (feedP p xs) ys := by
  induction xs with
  | nil => intro p; rfl
  | cons x xs ih => intro p; exact ih _
theorem feedR_append (xs ys : List Int) : ∀ p, feedR p (xs ++ ys) = feedR p xs ++ feedR (feedP p xs) ys := by
  induction xs with
  | nil => intro p; rfl
  | cons x xs ih => intro p; simp [feedR, feedP, ih]
theorem feedP_snoc (xs : List Int) (c : Int) (p : List Int) : feedP p (xs ++ [c]) = stepP (feedP p xs) c := by rw [feedP_append]; rfl
theorem feedR_snoc (xs : List Int) (c : Int) (p : List Int) : feedR p (xs ++ [c]) = feedR p xs ++ stepR (feedP p xs) c := by rw [feedR_append]; simp [feedR]
theorem Inv.feed (xs : List Int) : ∀ {p : List Int}, Inv p → Inv (feedP p xs) := by
  induction xs with
  | nil => intro p h; exact h
  | cons x xs ih => intro p h; exact ih (h.step x)
theorem endR_len (p : List Int) : (endR p).length ≤ 1 := by unfold endR; split <;> simp
theorem stepR_len (p : List Int) (c : Int) : (stepR p c).length ≤ 2 := by
  unfold stepR
  have := endR_len p
  split
  · split <;> simp
  · simp only [List.length_append]
    split
    · simp; omega
    · split <;> simp <;> omega
theorem feedR_len (xs : List Int) : ∀ p, (feedR p xs).length ≤ 2 * xs.length := by
  induction xs with
  | nil => intro p; simp [feedR]
  | cons x xs ih =>
    intro p
    have h1 := stepR_len p x
    have h2 := ih (stepP p x)
    simp only [feedR, List.length_append, List.length_cons]
    omega

/-- The runes of all bytes. -/
def decI (bs : List Int) : List Int := feedR [] bs ++ endR (feedP [] bs)
theorem decI_len (bs : List Int) : (decI bs).length ≤ 2 * bs.length + 1 := by
  have h1 := feedR_len bs []
  have h2 := endR_len (feedP [] bs)
  simp only [decI, List.length_append]
  omega

/-- The bytes of a rune, and those of Bad for what is none. -/
def bytes0 (r : Int) : List Int :=
  if r < 128 then [r] else if r < 2048 then [192 + r / 64, 128 + r % 64] else if r < 65536 then [224 + r / 4096, 128 + r / 64 % 64, 128 + r % 64] else [240 + r / 262144, 128 + r / 4096 % 64, 128 + r / 64 % 64, 128 + r % 64]
def bytesI (r : Int) : List Int := if validI r = true then bytes0 r else [239, 191, 189]
def encI : List Int → List Int
  | [] => []
  | r :: l => bytesI r ++ encI l
theorem encI_append (l m : List Int) : encI (l ++ m) = encI l ++ encI m := by
  induction l with
  | nil => rfl
  | cons x l ih => simp [encI, ih]
theorem encI_snoc (l : List Int) (r : Int) : encI (l ++ [r]) = encI l ++ bytesI r := by rw [encI_append]; simp [encI]
theorem bytesI_len (r : Int) : (bytesI r).length ≤ 4 := by
  unfold bytesI bytes0
  split
  · split
    · simp
    · split
      · simp
      · split <;> simp
  · simp
theorem encI_len (l : List Int) : (encI l).length ≤ 4 * l.length := by
  induction l with
  | nil => simp [encI]
  | cons x l ih =>
    have := bytesI_len x
    simp only [encI, List.length_append, List.length_cons]
    omega
theorem bytesI_byte (r : Int) : ∀ x ∈ bytesI r, 0 ≤ x ∧ x ≤ 255 := by
  intro x hx
  unfold bytesI bytes0 at hx
  split at hx
  · rename_i hv
    simp only [validI, decide_eq_true_eq] at hv
    split at hx
    · simp at hx; omega
    · split at hx
      · simp at hx; omega
      · split at hx
        · simp at hx; omega
        · simp at hx; omega
  · simp at hx; omega
theorem encI_byte (l : List Int) : ∀ x ∈ encI l, 0 ≤ x ∧ x ≤ 255 := by
  induction l with
  | nil => simp [encI]
  | cons r l ih =>
    intro x hx
    simp only [encI, List.mem_append] at hx
    rcases hx with hx | hx
    · exact bytesI_byte r x hx
    · exact ih x hx
end Go.Proofs.Ytjcoeapopkkcbaa
