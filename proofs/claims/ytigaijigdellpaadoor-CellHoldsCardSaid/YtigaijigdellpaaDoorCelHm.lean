/- What marking and Of keep: on integers. -/
import Derived.Test.YtigaijigdellpaaDoorCelOf
namespace Go.Proofs.YtigaijigdellpaaDoor
set_option linter.unusedVariables false
set_option linter.unusedSimpArgs false

theorem ofE_row {r : Int} {p : Pn} (h : (ofE r p).2 = 0) : rowI (ofE r p).1 = true ∧ ∃ t, (ofE r p).1 = ofC r p :: t ∧ validC (ofC r p) = true := by
  unfold ofE at *
  by_cases hv : validC (ofC r p) = true
  · rw [if_pos hv] at h ⊢
    have hp := valid_pen hv
    have hw : (ofC r p).w = ofI r := rfl
    have hb := ((of_valid r p).1 hv).1
    by_cases h2 : ofI r = 2
    · rw [if_pos h2] at h ⊢
      refine ⟨?_, _, rfl, hv⟩
      simp only [rowI, rowFrom, hv, valid_spacer hp, hw, h2]
      have hs := valid_spacer hp
      simp only [spacerC, ofC] at hs
      simp [spacerC, zeroK, ofC, hs]
    · rw [if_neg h2] at h ⊢
      refine ⟨?_, _, rfl, hv⟩
      simp only [rowI, rowFrom, hv, hw]
      have h0 : ofI r ≠ 0 := by omega
      simp [h2, h0, zeroK, spacerC]
  · rw [if_neg hv] at h
    cases h
theorem ofC_start (r : Int) (p : Pn) (h : validC (ofC r p) = true) : (ofC r p).r ≠ 0 ∧ cntI (ofC r p).m0 (ofC r p).m1 (ofC r p).m2 = 0 := by
  refine ⟨?_, ?_⟩
  · intro h0
    have h1 := ((of_valid r p).1 h).1
    have h2 : r = 0 := h0
    rw [h2, ofI_zero] at h1
    omega
  · show cntI 0 0 0 = 0
    decide
theorem runes_snoc (l : List Int) (x : Int) : runesBytes (l ++ [x]) = runesBytes l ++ Utf8.encode x := by
  unfold runesBytes
  rw [List.foldl_append]
  rfl
theorem encode_pos (x : Int) : 1 ≤ (Utf8.encode x).size := by
  unfold Utf8.encode
  simp only
  repeat' split
  all_goals simp [ByteArray.size]
theorem mk_ne {x : Int} (h : mkI x = true) : x ≠ 0 := by
  rintro rfl
  rw [mkI_zero] at h
  cases h
/-- What a cell with one more mark is like. -/
theorem mark_ok {c : Cl} {x : Int} (hv : validC c = true) (hr : c.r ≠ 0) (h : (markE c x).2 = 0) :
    validC (markE c x).1 = true ∧ (markE c x).1.r ≠ 0 ∧ cntI c.m0 c.m1 c.m2 < 3 ∧ cntI (markE c x).1.m0 (markE c x).1.m1 (markE c x).1.m2 = cntI c.m0 c.m1 c.m2 + 1 ∧ (textC c).size < (textC (markE c x).1).size := by
  have ho : ordI c.m0 c.m1 c.m2 = true := by
    unfold validC at hv
    rw [if_neg hr] at hv
    simp only [Bool.and_eq_true] at hv
    exact hv.2.2
  have hw : 0 < c.w := by
    unfold validC at hv
    rw [if_neg hr] at hv
    simp only [Bool.and_eq_true, decide_eq_true_eq] at hv
    exact hv.2.1.1
  unfold markE at *
  by_cases hx : mkI x = true
  · rw [if_neg (by simp [hv, hx]), if_neg hr] at h ⊢
    by_cases h3 : cntI c.m0 c.m1 c.m2 = 3
    · rw [if_pos h3] at h; cases h
    · rw [if_neg h3] at h ⊢
      have hxn := mk_ne hx
      obtain ⟨r, m0, m1, m2, w, p⟩ := c
      simp only at *
      have hw0 : w ≠ 0 := by omega
      have key : ∀ (c' : Cl), c'.w = w → c'.r = r → textL c' = textL ⟨r, m0, m1, m2, w, p⟩ ++ [x] → (textC ⟨r, m0, m1, m2, w, p⟩).size < (textC c').size := by
        intro c' e1 e2 e3
        unfold textC
        rw [e1, e2, if_neg hw0, if_neg hr, if_neg hw0, if_neg hr, e3, runes_snoc, ByteArray.size_append]
        have := encode_pos x
        omega
      unfold ordI unmI at ho
      unfold validC at hv
      rw [if_neg hr] at hv
      simp only [Bool.and_eq_true] at hv
      unfold cntI at h3 ⊢
      by_cases ha : mkI m0 = true
      · have a0 := mk_ne ha
        by_cases hb : mkI m1 = true
        · have b0 := mk_ne hb
          by_cases hc : mkI m2 = true
          · simp [ha, hb, hc] at h3
          · simp [ha, hb, hc] at ho
            subst ho
            simp only [ha, hb, hc, if_true, Bool.false_eq_true, if_false]
            refine ⟨?_, hr, by omega, by simp [setM, ha, hb, hx], key _ rfl rfl (by simp [textL, nzL, setM, a0, b0, hxn])⟩
            unfold validC
            simp only [setM]
            rw [if_neg hr]
            simp [hv.1, hv.2.1, ordI, ha, hb, hx]
        · simp [ha, hb] at ho
          obtain ⟨rfl, rfl⟩ := ho
          simp only [ha, hb, if_true, Bool.false_eq_true, if_false]
          refine ⟨?_, hr, by omega, by simp [setM, ha, hx, mkI_zero], key _ rfl rfl (by simp [textL, nzL, setM, a0, hxn])⟩
          unfold validC
          simp only [setM]
          rw [if_neg hr]
          simp [ordI, ha, hx, mkI_zero]
          exact ⟨by simpa using hv.1, by simpa using hv.2.1⟩
      · simp [ha] at ho
        obtain ⟨rfl, rfl, rfl⟩ := ho
        simp only [ha, Bool.false_eq_true, if_false]
        refine ⟨?_, hr, by omega, by simp [setM, hx, mkI_zero], key _ rfl rfl (by simp [textL, nzL, setM, hxn])⟩
        unfold validC
        simp only [setM]
        rw [if_neg hr]
        simp [ordI, hx, mkI_zero]
        exact ⟨by simpa using hv.1, by simpa using hv.2.1⟩
  · rw [if_pos (by right; simpa using hx)] at h
    cases h
end Go.Proofs.YtigaijigdellpaaDoor
