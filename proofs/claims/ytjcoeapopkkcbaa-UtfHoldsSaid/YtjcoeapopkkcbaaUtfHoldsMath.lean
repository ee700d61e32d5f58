/- Layer 1 on integers: what follows of decoding and encoding together. -/
import Derived.Test.YtjcoeapopkkcbaaUtfRefMath
namespace Go.Proofs.Ytjcoeapopkkcbaa

def phi (p : List Int) : Nat := if p = [] then 0 else 1

theorem step_count (p : List Int) (c : Int) : (stepR p c).length + phi (stepP p c) ≤ 1 + phi p := by
  unfold stepR stepP
  by_cases hg : goesB p c = true
  · have hp : p ≠ [] := by intro h; subst h; simp [goesB] at hg
    rw [if_pos hg, if_pos hg]
    split
    · simp [phi, hp]
    · simp [phi, hp]
  · rw [if_neg hg, if_neg hg]
    have he : (endR p).length = phi p := by unfold endR phi; split <;> simp
    have := size_cases c
    by_cases h0 : sizeI c = 0
    · rw [if_pos h0, if_neg (by omega)]
      simp [phi] at he ⊢
      omega
    · by_cases h1 : sizeI c = 1
      · rw [if_neg h0, if_pos h1, if_neg (by omega)]
        simp [phi] at he ⊢
        omega
      · rw [if_neg h0, if_neg h1, if_pos (by omega)]
        simp [phi] at he ⊢
        omega

theorem feed_count (bs : List Int) : ∀ p, (feedR p bs).length + phi (feedP p bs) ≤ bs.length + phi p := by
  induction bs with
  | nil => intro p; simp [feedR, feedP]
  | cons c cs ih =>
    intro p
    have h1 := step_count p c
    have h2 := ih (stepP p c)
    simp only [feedR, feedP, List.length_append, List.length_cons]
    omega

theorem feed_le (bs : List Int) : (feedR [] bs).length ≤ bs.length := by
  have := feed_count bs []
  simp [phi] at this
  omega

theorem validI_iff (r : Int) : validI r = true ↔ 0 ≤ r ∧ r ≤ 1114111 ∧ (r < 55296 ∨ 57343 < r) := by simp [validI]

/-- The bytes of a rune that goes on with them, and the rune, when they are all there. -/
theorem rune_whole {p : List Int} {c : Int} (hi : Inv p) (hg : goesB p c = true) (hw : ¬ (p.length : Int) + 1 < sizeI (p.headD 0)) : validI (runeI (p ++ [c])) = true ∧ bytesI (runeI (p ++ [c])) = p ++ [c] := by
  match p, hi with
  | [], _ => simp [goesB] at hg
  | [x], hi =>
    simp only [Inv] at hi
    simp [goesB] at hg
    simp at hw
    have hs := size_cases x
    have hl := lohi x
    have hx : 194 ≤ x ∧ x < 224 := by omega
    have e2 : runeI ([x] ++ [c]) = (x - 192) * 64 + c % 64 := by
      show fbI x * 64 + c % 64 = _
      unfold fbI
      rw [if_pos hx.2]
    rw [e2]
    have hv : validI ((x - 192) * 64 + c % 64) = true := (validI_iff _).2 (by omega)
    refine ⟨hv, ?_⟩
    unfold bytesI bytes0
    rw [if_pos hv, if_neg (by omega), if_pos (by omega)]
    show [_, _] = [x, c]
    congr 1
    · omega
    · congr 1
      omega
  | [x, y], hi =>
    simp only [Inv] at hi
    simp [goesB] at hg
    simp at hw
    have hs := size_cases x
    have hl := lo_cases x
    have hh := hi_cases x
    have hx : 224 ≤ x ∧ x < 240 := by omega
    have e2 : runeI ([x, y] ++ [c]) = ((x - 224) * 64 + y % 64) * 64 + c % 64 := by
      show (fbI x * 64 + y % 64) * 64 + c % 64 = _
      unfold fbI
      rw [if_neg (by omega), if_pos hx.2]
    rw [e2]
    have hv : validI (((x - 224) * 64 + y % 64) * 64 + c % 64) = true := (validI_iff _).2 (by omega)
    refine ⟨hv, ?_⟩
    unfold bytesI bytes0
    rw [if_pos hv, if_neg (by omega), if_neg (by omega), if_pos (by omega)]
    show [_, _, _] = [x, y, c]
    congr 1
    · omega
    · congr 1
      · omega
      · congr 1
        omega
  | [x, y, z], hi =>
    simp only [Inv] at hi
    simp [goesB] at hg
    have hl := lo_cases x
    have hh := hi_cases x
    have e2 : runeI ([x, y, z] ++ [c]) = (((x - 240) * 64 + y % 64) * 64 + z % 64) * 64 + c % 64 := by
      show ((fbI x * 64 + y % 64) * 64 + z % 64) * 64 + c % 64 = _
      unfold fbI
      rw [if_neg (by omega), if_neg (by omega)]
    rw [e2]
    have hv : validI ((((x - 240) * 64 + y % 64) * 64 + z % 64) * 64 + c % 64) = true := (validI_iff _).2 (by omega)
    refine ⟨hv, ?_⟩
    unfold bytesI bytes0
    rw [if_pos hv, if_neg (by omega), if_neg (by omega), if_neg (by omega)]
    show [_, _, _, _] = [x, y, z, c]
    congr 1
    · omega
    · congr 1
      · omega
      · congr 1
        · omega
        · congr 1
          omega

theorem bad_valid : validI 65533 = true := by decide

theorem stepR_valid {p : List Int} {c : Int} (hi : Inv p) (hc : 0 ≤ c ∧ c ≤ 255) : ∀ r ∈ stepR p c, validI r = true := by
  intro r hr
  unfold stepR at hr
  by_cases hg : goesB p c = true
  · rw [if_pos hg] at hr
    split at hr
    · simp at hr
    · rename_i hw
      simp at hr
      subst hr
      exact (rune_whole hi hg hw).1
  · rw [if_neg hg] at hr
    rw [List.mem_append] at hr
    rcases hr with hr | hr
    · unfold endR at hr
      split at hr
      · simp at hr
      · simp at hr; subst hr; exact bad_valid
    · have hs := size_cases c
      split at hr
      · simp at hr; subst hr; exact bad_valid
      · split at hr
        · simp at hr
          subst hr
          exact (validI_iff _).2 (by omega)
        · simp at hr

theorem feedR_valid (bs : List Int) : ∀ {p}, Inv p → (∀ x ∈ bs, 0 ≤ x ∧ x ≤ 255) → ∀ r ∈ feedR p bs, validI r = true := by
  induction bs with
  | nil => intro p _ _ r hr; simp [feedR] at hr
  | cons c cs ih =>
    intro p hi hb r hr
    simp only [feedR, List.mem_append] at hr
    rcases hr with hr | hr
    · exact stepR_valid hi (hb c (by simp)) r hr
    · exact ih (hi.step c) (fun x hx => hb x (by simp [hx])) r hr

theorem stepP_zero {c : Int} : stepP [] c = if 2 ≤ sizeI c then [c] else [] := by simp [stepP, goesB]
theorem stepR_zero {c : Int} : stepR [] c = if sizeI c = 0 then [65533] else if sizeI c = 1 then [c] else [] := by simp [stepR, goesB, endR]

/-- Decoding the bytes of a rune. -/
theorem feed_bytes0 {r : Int} (hv : validI r = true) : feedP [] (bytes0 r) = [] ∧ feedR [] (bytes0 r) = [r] := by
  rw [validI_iff] at hv
  unfold bytes0
  by_cases h1 : r < 128
  · rw [if_pos h1]
    have hs : sizeI r = 1 := by have := size_cases r; omega
    simp [feedP, feedR, stepP_zero, stepR_zero, hs]
  · rw [if_neg h1]
    by_cases h2 : r < 2048
    · rw [if_pos h2]
      have hs : sizeI (192 + r / 64) = 2 := by have := size_cases (192 + r / 64); omega
      have hl := lo_cases (192 + r / 64)
      have hh := hi_cases (192 + r / 64)
      have hg : goesB [192 + r / 64] (128 + r % 64) = true := by simp only [goesB, decide_eq_true_eq]; omega
      have a1 : stepP [] (192 + r / 64) = [192 + r / 64] := by rw [stepP_zero, if_pos (by omega)]
      have a2 : stepR [] (192 + r / 64) = [] := by rw [stepR_zero, if_neg (by omega), if_neg (by omega)]
      have b1 : stepP [192 + r / 64] (128 + r % 64) = [] := by unfold stepP; rw [if_pos hg, if_neg (by simp [hs])]
      have b2 : stepR [192 + r / 64] (128 + r % 64) = [r] := by
        unfold stepR
        rw [if_pos hg, if_neg (by simp [hs])]
        show [fbI (192 + r / 64) * 64 + (128 + r % 64) % 64] = [r]
        congr 1
        unfold fbI
        rw [if_pos (by omega)]
        omega
      simp only [feedP, feedR, a1, a2, b1, b2, List.nil_append, List.append_nil]
      exact ⟨trivial, trivial⟩
    · rw [if_neg h2]
      by_cases h3 : r < 65536
      · rw [if_pos h3]
        have hs : sizeI (224 + r / 4096) = 3 := by have := size_cases (224 + r / 4096); omega
        have hl := lo_cases (224 + r / 4096)
        have hh := hi_cases (224 + r / 4096)
        have hg : goesB [224 + r / 4096] (128 + r / 64 % 64) = true := by simp only [goesB, decide_eq_true_eq]; omega
        have hg2 : goesB [224 + r / 4096, 128 + r / 64 % 64] (128 + r % 64) = true := by simp only [goesB, decide_eq_true_eq]; omega
        have a1 : stepP [] (224 + r / 4096) = [224 + r / 4096] := by rw [stepP_zero, if_pos (by omega)]
        have a2 : stepR [] (224 + r / 4096) = [] := by rw [stepR_zero, if_neg (by omega), if_neg (by omega)]
        have b1 : stepP [224 + r / 4096] (128 + r / 64 % 64) = [224 + r / 4096, 128 + r / 64 % 64] := by unfold stepP; rw [if_pos hg, if_pos (by simp [hs])]; rfl
        have b2 : stepR [224 + r / 4096] (128 + r / 64 % 64) = [] := by unfold stepR; rw [if_pos hg, if_pos (by simp [hs])]
        have d1 : stepP [224 + r / 4096, 128 + r / 64 % 64] (128 + r % 64) = [] := by unfold stepP; rw [if_pos hg2, if_neg (by simp [hs])]
        have d2 : stepR [224 + r / 4096, 128 + r / 64 % 64] (128 + r % 64) = [r] := by
          unfold stepR
          rw [if_pos hg2, if_neg (by simp [hs])]
          show [(fbI (224 + r / 4096) * 64 + (128 + r / 64 % 64) % 64) * 64 + (128 + r % 64) % 64] = [r]
          congr 1
          unfold fbI
          rw [if_neg (by omega), if_pos (by omega)]
          omega
        simp only [feedP, feedR, a1, a2, b1, b2, d1, d2, List.nil_append, List.append_nil]
        exact ⟨trivial, trivial⟩
      · rw [if_neg h3]
        have hs : sizeI (240 + r / 262144) = 4 := by have := size_cases (240 + r / 262144); omega
        have hl := lo_cases (240 + r / 262144)
        have hh := hi_cases (240 + r / 262144)
        have hg : goesB [240 + r / 262144] (128 + r / 4096 % 64) = true := by simp only [goesB, decide_eq_true_eq]; omega
        have hg2 : goesB [240 + r / 262144, 128 + r / 4096 % 64] (128 + r / 64 % 64) = true := by simp only [goesB, decide_eq_true_eq]; omega
        have hg3 : goesB [240 + r / 262144, 128 + r / 4096 % 64, 128 + r / 64 % 64] (128 + r % 64) = true := by simp only [goesB, decide_eq_true_eq]; omega
        have a1 : stepP [] (240 + r / 262144) = [240 + r / 262144] := by rw [stepP_zero, if_pos (by omega)]
        have a2 : stepR [] (240 + r / 262144) = [] := by rw [stepR_zero, if_neg (by omega), if_neg (by omega)]
        have b1 : stepP [240 + r / 262144] (128 + r / 4096 % 64) = [240 + r / 262144, 128 + r / 4096 % 64] := by unfold stepP; rw [if_pos hg, if_pos (by simp [hs])]; rfl
        have b2 : stepR [240 + r / 262144] (128 + r / 4096 % 64) = [] := by unfold stepR; rw [if_pos hg, if_pos (by simp [hs])]
        have d1 : stepP [240 + r / 262144, 128 + r / 4096 % 64] (128 + r / 64 % 64) = [240 + r / 262144, 128 + r / 4096 % 64, 128 + r / 64 % 64] := by unfold stepP; rw [if_pos hg2, if_pos (by simp [hs])]; rfl
        have d2 : stepR [240 + r / 262144, 128 + r / 4096 % 64] (128 + r / 64 % 64) = [] := by unfold stepR; rw [if_pos hg2, if_pos (by simp [hs])]
        have f1 : stepP [240 + r / 262144, 128 + r / 4096 % 64, 128 + r / 64 % 64] (128 + r % 64) = [] := by unfold stepP; rw [if_pos hg3, if_neg (by simp [hs])]
        have f2 : stepR [240 + r / 262144, 128 + r / 4096 % 64, 128 + r / 64 % 64] (128 + r % 64) = [r] := by
          unfold stepR
          rw [if_pos hg3, if_neg (by simp [hs])]
          show [((fbI (240 + r / 262144) * 64 + (128 + r / 4096 % 64) % 64) * 64 + (128 + r / 64 % 64) % 64) * 64 + (128 + r % 64) % 64] = [r]
          congr 1
          unfold fbI
          rw [if_neg (by omega), if_neg (by omega)]
          omega
        simp only [feedP, feedR, a1, a2, b1, b2, d1, d2, f1, f2, List.nil_append, List.append_nil]
        exact ⟨trivial, trivial⟩

theorem feed_enc (l : List Int) : (∀ r ∈ l, validI r = true) → feedP [] (encI l) = [] ∧ feedR [] (encI l) = l := by
  induction l with
  | nil => intro _; exact ⟨rfl, rfl⟩
  | cons r l ih =>
    intro h
    have hr := h r (by simp)
    have hb : bytesI r = bytes0 r := by unfold bytesI; rw [if_pos hr]
    obtain ⟨h1, h2⟩ := feed_bytes0 hr
    obtain ⟨i1, i2⟩ := ih (fun x hx => h x (by simp [hx]))
    simp only [encI, feedP_append, feedR_append, hb, h1, h2, i1, i2]
    exact ⟨trivial, rfl⟩

theorem dec_enc (l : List Int) (h : ∀ r ∈ l, validI r = true) : decI (encI l) = l := by
  obtain ⟨h1, h2⟩ := feed_enc l h
  unfold decI
  rw [h1, h2]
  simp [endR]

theorem enc_feed (bs : List Int) : ∀ {p}, Inv p → (∀ x ∈ bs, 0 ≤ x ∧ x ≤ 255) → 65533 ∉ feedR p bs → feedP p bs = [] → encI (feedR p bs) = p ++ bs := by
  induction bs with
  | nil => intro p _ _ _ hp; simp only [feedP] at hp; subst hp; rfl
  | cons c cs ih =>
    intro p hi hb hn hp
    have hc := hb c (by simp)
    have hb' : ∀ x ∈ cs, 0 ≤ x ∧ x ≤ 255 := fun x hx => hb x (by simp [hx])
    simp only [feedR, List.mem_append] at hn
    have hn1 : 65533 ∉ stepR p c := fun h => hn (.inl h)
    have hn2 : 65533 ∉ feedR (stepP p c) cs := fun h => hn (.inr h)
    have key := ih (hi.step c) hb' hn2 hp
    simp only [feedR, encI_append, key]
    by_cases hg : goesB p c = true
    · by_cases hw : (p.length : Int) + 1 < sizeI (p.headD 0)
      · have e1 : stepP p c = p ++ [c] := by unfold stepP; rw [if_pos hg, if_pos hw]
        have e2 : stepR p c = [] := by unfold stepR; rw [if_pos hg, if_pos hw]
        rw [e1, e2]
        simp [encI]
      · have e1 : stepP p c = [] := by unfold stepP; rw [if_pos hg, if_neg hw]
        have e2 : stepR p c = [runeI (p ++ [c])] := by unfold stepR; rw [if_pos hg, if_neg hw]
        rw [e1, e2]
        simp only [encI, (rune_whole hi hg hw).2]
        simp
    · have e2 : stepR p c = endR p ++ (if sizeI c = 0 then [65533] else if sizeI c = 1 then [c] else []) := by unfold stepR; rw [if_neg hg]
      have e1 : stepP p c = if 2 ≤ sizeI c then [c] else [] := by unfold stepP; rw [if_neg hg]
      have hp0 : p = [] := by
        cases p with
        | nil => rfl
        | cons x r => exact absurd (by rw [e2]; simp [endR]) hn1
      subst hp0
      have hs := size_cases c
      by_cases h0 : sizeI c = 0
      · exact absurd (by rw [e2, if_pos h0]; simp) hn1
      · by_cases h1 : sizeI c = 1
        · rw [e1, e2, if_neg h0, if_pos h1, if_neg (by omega)]
          have hv : validI c = true := (validI_iff _).2 (by omega)
          have hb1 : bytesI c = [c] := by unfold bytesI bytes0; rw [if_pos hv, if_pos (by omega)]
          show bytesI c ++ [] ++ cs = [] ++ c :: cs
          rw [hb1]
          rfl
        · rw [e1, e2, if_neg h0, if_neg h1, if_pos (by omega)]
          simp [endR, encI]
end Go.Proofs.Ytjcoeapopkkcbaa
