/- The chapter's definitions on lists: lines, their used cells, trimming, fitting, putting, and the chapter's consequences. Nothing of the program is used here. -/
import Derived.Test.YtpeedjknjjbabaaDoorCelMath
set_option linter.unusedVariables false
namespace Go.Proofs.YtpeedjknjjbabaaDoor

/-- The empty cell. -/
def eC : Cl := blankC zeroP
theorem eC_valid : validC eC = true := valid_blank ⟨.inl ⟨rfl, rfl, rfl, rfl, rfl⟩, .inl ⟨rfl, rfl, rfl, rfl, rfl⟩⟩
/-- How many used cells there are. -/
def usedI (l : List Cl) : Nat := (l.reverse.dropWhile fun c => decide (c = eC)).length
def newL (n : Nat) : List Cl := List.replicate n eC
def validL (l : List Cl) : Bool := decide (l.length ≤ 1000) && rowI l
def trimL (l : List Cl) : List Cl := l.take (usedI l)
def fitL (l : List Cl) (n : Nat) : List Cl := fixI (l.take n) ++ List.replicate (n - l.length) eC
def putL (l : List Cl) (at' : Nat) (c : List Cl) : List Cl := fixI (l.take at') ++ c ++ fixI (l.drop (at' + c.length))

theorem used_nil : usedI [] = 0 := rfl
theorem used_snoc (l : List Cl) (c : Cl) : usedI (l ++ [c]) = if c = eC then usedI l else l.length + 1 := by
  unfold usedI
  rw [List.reverse_append, List.reverse_cons, List.reverse_nil, List.nil_append, List.singleton_append, List.dropWhile_cons]
  by_cases h : c = eC
  · simp [h]
  · simp [h]
theorem used_take {l : List Cl} {k : Nat} (hk : k < l.length) : usedI (l.take (k + 1)) = if l[k] = eC then usedI (l.take k) else k + 1 := by
  rw [List.take_succ_eq_append_getElem hk, used_snoc, List.length_take, Nat.min_eq_left (by omega)]
theorem used_le (l : List Cl) : usedI l ≤ l.length := by
  unfold usedI
  have := (List.dropWhile_sublist (l := l.reverse) (fun c => decide (c = eC))).length_le
  simpa using this
theorem used_all (l : List Cl) : usedI l = usedI (l.take l.length) := by rw [List.take_length]
/-- Behind the used cells are empty ones; the last used one is not empty. -/
theorem used_split : ∀ (n : Nat) (l : List Cl), l.length = n → l = l.take (usedI l) ++ List.replicate (n - usedI l) eC ∧ usedI (l.take (usedI l)) = usedI l
  | 0, l, h => by
    obtain rfl := List.eq_nil_of_length_eq_zero h
    exact ⟨rfl, rfl⟩
  | n + 1, l, h => by
    obtain ⟨m, c, rfl⟩ : ∃ m c, l = m ++ [c] := by
      rcases List.eq_nil_or_concat l with h0 | ⟨m, c, hm⟩
      · rw [h0] at h; cases h
      · exact ⟨m, c, by simpa using hm⟩
    have hm : m.length = n := by simpa using h
    have hle := used_le m
    rw [used_snoc]
    by_cases hc : c = eC
    · rw [if_pos hc]
      obtain ⟨h1, h2⟩ := used_split n m hm
      have e : (m ++ [c]).take (usedI m) = m.take (usedI m) := List.take_append_of_le_length hle
      rw [e]
      refine ⟨?_, h2⟩
      rw [show n + 1 - usedI m = (n - usedI m) + 1 by omega, List.replicate_succ', ← List.append_assoc, ← h1, hc]
    · rw [if_neg hc, hm, show n + 1 = (m ++ [c]).length by simp [hm], List.take_length, Nat.sub_self, List.replicate_zero, List.append_nil]
      refine ⟨rfl, ?_⟩
      rw [used_snoc, if_neg hc]
      simp
theorem trim_len (l : List Cl) : (trimL l).length = usedI l := by
  unfold trimL
  rw [List.length_take, Nat.min_eq_left (used_le l)]
theorem trim_trim (l : List Cl) : trimL (trimL l) = trimL l := by
  unfold trimL
  rw [(used_split l.length l rfl).2, List.take_take, Nat.min_self]
theorem used_trim (l : List Cl) : usedI (trimL l) = usedI l := (used_split l.length l rfl).2
theorem used_more : ∀ (l : List Cl) (k : Nat), usedI (l ++ List.replicate k eC) = usedI l
  | l, 0 => by simp
  | l, k + 1 => by rw [List.replicate_succ', ← List.append_assoc, used_snoc, if_pos rfl, used_more l k]
theorem trim_more (l : List Cl) (k : Nat) : trimL (l ++ List.replicate k eC) = trimL l := by
  unfold trimL
  rw [used_more, List.take_append_of_le_length (used_le l)]

/-- Rows and empty cells behind them. -/
theorem empty_row : ∀ (k : Nat) (b : Cl), b.w ≠ 2 → rowFrom b (List.replicate k eC) = true
  | 0, b, h => by simp [rowFrom, h]
  | k + 1, b, h => by
    have ih := empty_row k eC (by decide)
    have hw : eC.w = 1 := rfl
    rw [List.replicate_succ]
    simp only [rowFrom, eC_valid, hw, ih]
    simp [h]
theorem row_cut : ∀ (x : List Cl) (k : Nat) (b : Cl), rowFrom b (x ++ List.replicate k eC) = true → rowFrom b x = true
  | [], 0, b, h => by simpa using h
  | [], k + 1, b, h => by
    rw [List.nil_append, List.replicate_succ] at h
    have hw : eC.w = 1 := rfl
    simp only [rowFrom, hw, Bool.and_eq_true, decide_eq_true_eq] at h
    have h2 : b.w ≠ 2 := fun h2 => by have := h.2.1.2 h2; omega
    simp [rowFrom, h2]
  | c :: x, k, b, h => by
    simp only [rowFrom, List.cons_append, Bool.and_eq_true] at h ⊢
    exact ⟨h.1, h.2.1, h.2.2.1, row_cut x k c h.2.2.2⟩
theorem row_trim {l : List Cl} (h : rowI l = true) : rowI (trimL l) = true := by
  have e := (used_split l.length l rfl).1
  rw [e] at h
  exact row_cut _ _ _ h
theorem row_more {l : List Cl} (h : rowI l = true) (k : Nat) : rowI (l ++ List.replicate k eC) = true := row_app l _ zeroK h (empty_row k zeroK (by decide))
theorem row_new (n : Nat) : rowI (newL n) = true := empty_row n zeroK (by decide)
theorem row_cells : ∀ (l : List Cl) (b : Cl), rowFrom b l = true → ∀ c ∈ l, validC c = true
  | [], _, _ => by simp
  | c :: l, b, h => by
    simp only [rowFrom, Bool.and_eq_true] at h
    intro x hx
    rcases List.mem_cons.1 hx with rfl | hx
    · exact h.1
    · exact row_cells l c h.2.2.2 x hx
theorem fixI_len' (l : List Cl) : (fixI l).length = l.length := fix_len l zeroK
theorem fit_len (l : List Cl) (n : Nat) : (fitL l n).length = n := by
  unfold fitL
  rw [List.length_append, fixI_len', List.length_take, List.length_replicate]
  omega
theorem fit_row {l : List Cl} (h : rowI l = true) (n : Nat) : rowI (fitL l n) = true :=
  row_more (fix_row _ (fun c hc => row_cells l _ h c (List.mem_of_mem_take hc))) _
theorem fit_same {l : List Cl} (h : rowI l = true) : fitL l l.length = l := by
  unfold fitL
  rw [List.take_length, row_fix l h, Nat.sub_self, List.replicate_zero, List.append_nil]
theorem fit_more {l : List Cl} (h : rowI l = true) (k : Nat) : fitL l (l.length + k) = l ++ List.replicate k eC := by
  unfold fitL
  rw [List.take_of_length_le (by omega), row_fix l h, Nat.add_sub_cancel_left]
theorem put_len {l c : List Cl} {at' : Nat} (h : at' + c.length ≤ l.length) : (putL l at' c).length = l.length := by
  unfold putL
  rw [List.length_append, List.length_append, fixI_len', fixI_len', List.length_take, List.length_drop]
  omega
theorem put_row {l c : List Cl} {at' : Nat} (hl : rowI l = true) (hc : rowI c = true) : rowI (putL l at' c) = true := by
  unfold putL
  have h1 := fix_row (l.take at') (fun x hx => row_cells l _ hl x (List.mem_of_mem_take hx))
  have h2 := fix_row (l.drop (at' + c.length)) (fun x hx => row_cells l _ hl x (List.mem_of_mem_drop hx))
  rw [List.append_assoc]
  exact row_app _ _ zeroK h1 (row_app _ _ zeroK hc h2)
theorem put_there {l c : List Cl} {at' : Nat} (h : at' ≤ l.length) : ((putL l at' c).drop at').take c.length = c := by
  have e : (fixI (l.take at')).length = at' := by rw [fixI_len', List.length_take]; omega
  unfold putL
  rw [List.append_assoc, List.drop_append_of_le_length (by omega), List.drop_of_length_le (by omega), List.nil_append, List.take_append_of_le_length (Nat.le_refl _), List.take_length]

/-- What is returned, and the error's number. -/
def newE (n : Int) : List Cl × Int := if 0 ≤ n ∧ n ≤ 1000 then (newL n.toNat, 0) else ([], 2)
def ofL (l : List Cl) (s : Bool) : (List Cl × Bool) × Int := if validL l = true then ((l, s), 0) else (([], false), 2)
def trimE (l : List Cl) (s : Bool) : (List Cl × Bool) × Int := if validL l = true then ((trimL l, s), 0) else (([], false), 2)
def fitE (l : List Cl) (s : Bool) (n : Int) : (List Cl × Bool) × Int := if validL l = true ∧ 0 ≤ n ∧ n ≤ 1000 then ((fitL l n.toNat, s), 0) else (([], false), 2)
def putE (l : List Cl) (s : Bool) (at' : Int) (c : List Cl) : (List Cl × Bool) × Int :=
  if validL l = false ∨ rowI c = false then (([], false), 2) else if at' < 0 ∨ (l.length : Int) < at' + c.length then (([], false), 3) else ((putL l at'.toNat c, s), 0)
end Go.Proofs.YtpeedjknjjbabaaDoor
