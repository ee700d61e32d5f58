/- The chapter's definitions on integers: words of cells, runs, which runs are right. Nothing of the program is used here. -/
import Derived.Test.YtpdjlollijbdeaaDoorCelMath
set_option linter.unusedVariables false
namespace Go.Proofs.YtpdjlollijbdeaaDoor

structure W3 where
  a : Int
  b : Int
  c : Int
  deriving DecidableEq
structure Ru where
  n : Int
  w : W3
  deriving DecidableEq
def U64 (x : Int) : Prop := 0 ≤ x ∧ x < 18446744073709551616
structure W3B (w : W3) : Prop where
  a : U64 w.a
  b : U64 w.b
  c : U64 w.c
def I64 (x : Int) : Prop := -9223372036854775808 ≤ x ∧ x ≤ 9223372036854775807
structure RuB (r : Ru) : Prop where
  n : I64 r.n
  w : W3B r.w
def wordsC (c : Cl) : W3 := ⟨packI c.p, c.r + 2097152 * c.w, c.m0 + 2097152 * (c.m1 + 2097152 * c.m2)⟩
def cellU (w : W3) : Cl := ⟨w.b % 2097152, w.c % 2097152, w.c / 2097152 % 2097152, w.c / 4398046511104 % 2097152, w.b / 2097152, unpackI w.a⟩
def okW (w : W3) : Bool := validC (cellU w) && decide (wordsC (cellU w) = w)
def zeroW : W3 := ⟨0, 0, 0⟩
def wordsE (c : Cl) : W3 × Int := if validC c = true then (wordsC c, 0) else (zeroW, 2)
def cellE (w : W3) : Cl × Int := if okW w = true then (cellU w, 0) else (zeroK, 12)

theorem of_range {r : Int} (h : ofI r ≠ -1) : 32 ≤ r ∧ r ≤ 1114111 := by
  unfold ofI at h
  split at h
  · rename_i hp
    unfold printedI at hp
    simp at hp
    omega
  · exact absurd rfl h
def R21 (x : Int) : Prop := 0 ≤ x ∧ x < 2097152
theorem mk_range {x : Int} (h : mkI x = true) : R21 x := by
  have : ofI x = 0 := by simpa [mkI] using h
  have := of_range (r := x) (by omega)
  exact ⟨by omega, by omega⟩
theorem r21_zero : R21 0 := ⟨by omega, by omega⟩
theorem ord_range {a b c : Int} (h : ordI a b c = true) : R21 a ∧ R21 b ∧ R21 c := by
  unfold ordI unmI at h
  cases ha : mkI a
  · rw [ha] at h
    simp at h
    obtain ⟨rfl, rfl, rfl⟩ := h
    exact ⟨r21_zero, r21_zero, r21_zero⟩
  · rw [ha] at h
    cases hb : mkI b
    · rw [hb] at h
      simp at h
      obtain ⟨rfl, rfl⟩ := h
      exact ⟨mk_range ha, r21_zero, r21_zero⟩
    · rw [hb] at h
      cases hc : mkI c
      · rw [hc] at h
        simp at h
        subst h
        exact ⟨mk_range ha, mk_range hb, r21_zero⟩
      · exact ⟨mk_range ha, mk_range hb, mk_range hc⟩
structure ValB (c : Cl) : Prop where
  r : R21 c.r
  m0 : R21 c.m0
  m1 : R21 c.m1
  m2 : R21 c.m2
  w0 : 0 ≤ c.w
  w2 : c.w ≤ 2
theorem valid_range {c : Cl} (h : validC c = true) : ValB c := by
  have hw := valid_w h
  unfold validC at h
  simp only [Bool.and_eq_true, decide_eq_true_eq] at h
  by_cases hr : c.r = 0
  · rw [if_pos hr] at h
    simp [unmI] at h
    obtain ⟨_, h1, h2, h3, h4⟩ := h
    refine ⟨?_, ?_, ?_, ?_, by omega, by omega⟩
    · rw [hr]; exact r21_zero
    · rw [h2]; exact r21_zero
    · rw [h3]; exact r21_zero
    · rw [h4]; exact r21_zero
  · rw [if_neg hr] at h
    simp at h
    obtain ⟨_, ⟨h1, h2⟩, h3⟩ := h
    have hb := of_range (r := c.r) (by omega)
    obtain ⟨o1, o2, o3⟩ := ord_range h3
    exact ⟨⟨by omega, by omega⟩, o1, o2, o3, by omega, by omega⟩

theorem words_cell {c : Cl} (h : validC c = true) (hb : PnB c.p) : cellU (wordsC c) = c := by
  obtain ⟨⟨a1, a2⟩, ⟨b1, b2⟩, ⟨c1, c2⟩, ⟨d1, d2⟩, e1, e2⟩ := valid_range h
  have hp := unpack_pack (valid_pen h) hb
  obtain ⟨r, m0, m1, m2, w, p⟩ := c
  simp only at *
  unfold cellU wordsC
  simp only [hp, Cl.mk.injEq, and_true]
  omega
theorem words_ok {c : Cl} (h : validC c = true) (hb : PnB c.p) : okW (wordsC c) = true := by
  unfold okW
  rw [words_cell h hb, h]
  simp
theorem words_inj {c d : Cl} (h : validC c = true) (hb : PnB c.p) (h' : validC d = true) (hb' : PnB d.p) (e : wordsC c = wordsC d) : c = d := by
  rw [← words_cell h hb, e, words_cell h' hb']
theorem words_bound {c : Cl} (h : validC c = true) (hb : PnB c.p) : W3B (wordsC c) := by
  obtain ⟨⟨a1, a2⟩, ⟨b1, b2⟩, ⟨c1, c2⟩, ⟨d1, d2⟩, e1, e2⟩ := valid_range h
  obtain ⟨_, _, _, p0, p1⟩ := pack_parts (valid_pen h) hb
  refine ⟨⟨p0, ?_⟩, ⟨?_, ?_⟩, ⟨?_, ?_⟩⟩ <;> simp only [wordsC] <;> omega
theorem okW_valid {w : W3} (h : okW w = true) : validC (cellU w) = true ∧ wordsC (cellU w) = w := by
  unfold okW at h
  simpa using h
theorem okW_pen {w : W3} (h : packI (unpackI w.a) ≠ w.a) : okW w = false := by
  unfold okW
  have : ¬ wordsC (cellU w) = w := fun e => h (congrArg W3.a e)
  simp [this]
theorem okW_wide {w : W3} (h : 8388608 ≤ w.b) : okW w = false := by
  cases hv : validC (cellU w)
  · unfold okW; rw [hv]; rfl
  · have := (valid_range hv).w2
    simp only [cellU] at this
    omega
theorem cell_pn (w : W3) : PnB (cellU w).p := unpack_b _

/-- Runs. -/
def addRun : List Ru → Ru → List Ru
  | [], r => [r]
  | [q], r => if q.w = r.w then [⟨q.n + r.n, q.w⟩] else [q, r]
  | q :: q' :: l, r => q :: addRun (q' :: l) r
def oneR (c : Cl) : Ru := ⟨1, wordsC c⟩
def packL (l : List Cl) : List Ru := (l.map oneR).foldl addRun []
def packR (l : List Cl) : List Ru × Int := if 100000 < l.length then ([], 5) else if (∀ c ∈ l, validC c = true) then (packL l, 0) else ([], 2)
def expand (l : List Ru) : List Cl := l.flatMap fun r => List.replicate r.n.toNat (cellU r.w)
def stepT (s : Option (Int × Option W3)) (r : Ru) : Option (Int × Option W3) := match s with
  | none => none
  | some (n, p) => if r.n < 1 ∨ 100000 - n < r.n ∨ okW r.w = false ∨ p = some r.w then none else some (n + r.n, some r.w)
def totT (l : List Ru) : Option (Int × Option W3) := l.foldl stepT (some (0, none))
def totI (l : List Ru) : Int × Bool := match totT l with
  | none => (0, false)
  | some (n, _) => (n, true)
def sumN (l : List Ru) : Int := (l.map Ru.n).sum
def lastW (l : List Ru) : Option W3 := l.getLast?.map Ru.w
def prevW (l : List Ru) : Nat → Option W3
  | 0 => none
  | i + 1 => l[i]?.map Ru.w
def unpackR (l : List Ru) : List Cl × Int := if (totI l).2 = true then (expand l, 0) else ([], 12)
def joinR (a b : List Ru) : List Ru × Int := if (totI a).2 = false ∨ (totI b).2 = false then ([], 12) else if 100000 < (totI a).1 + (totI b).1 then ([], 5) else (b.foldl addRun a, 0)

theorem foldT_none (l : List Ru) : l.foldl stepT none = none := by induction l with | nil => rfl | cons r l ih => exact ih
theorem totT_take {l : List Ru} {k : Nat} (hk : k < l.length) : totT (l.take (k + 1)) = stepT (totT (l.take k)) l[k] := by
  unfold totT
  rw [List.take_succ_eq_append_getElem hk, List.foldl_append]
  rfl
theorem totT_fail {l : List Ru} {k : Nat} (h : totT (l.take k) = none) : totT l = none := by
  unfold totT at *
  rw [← List.take_append_drop k l, List.foldl_append, h]
  exact foldT_none _
theorem totI_fail {l : List Ru} (h : totT l = none) : totI l = (0, false) := by unfold totI; rw [h]
theorem totI_some {l : List Ru} {n : Int} {p : Option W3} (h : totT l = some (n, p)) : totI l = (n, true) := by unfold totI; rw [h]
theorem totI_true {l : List Ru} (h : (totI l).2 = true) : ∃ p, totT l = some ((totI l).1, p) := by
  unfold totI at *
  cases ht : totT l with
  | none => rw [ht] at h; cases h
  | some x => exact ⟨x.2, rfl⟩
theorem totI_false {l : List Ru} (h : (totI l).2 = false) : totI l = (0, false) := by
  unfold totI at *
  cases ht : totT l with
  | none => rfl
  | some x => rw [ht] at h; cases h

theorem step_some {s : Option (Int × Option W3)} {n : Int} {p : Option W3} {r : Ru} {x : Int × Option W3} (h : stepT (some (n, p)) r = some x) : 1 ≤ r.n ∧ n + r.n ≤ 100000 ∧ okW r.w = true ∧ p ≠ some r.w ∧ x = (n + r.n, some r.w) := by
  unfold stepT at h
  simp only at h
  split at h
  · cases h
  · rename_i hc
    simp only [not_or] at hc
    obtain ⟨h1, h2, h3, h4⟩ := hc
    injection h with h
    exact ⟨by omega, by omega, by simpa using h3, h4, h.symm⟩
theorem step_ok {n : Int} {p : Option W3} {r : Ru} (h1 : 1 ≤ r.n) (h2 : n + r.n ≤ 100000) (h3 : okW r.w = true) (h4 : p ≠ some r.w) : stepT (some (n, p)) r = some (n + r.n, some r.w) := by
  unfold stepT
  simp only
  rw [if_neg]
  simp only [not_or]
  exact ⟨by omega, by omega, by simp [h3], h4⟩
theorem step_bad {n : Int} {p : Option W3} {r : Ru} (h : r.n < 1 ∨ 100000 - n < r.n ∨ okW r.w = false ∨ p = some r.w) : stepT (some (n, p)) r = none := by
  unfold stepT
  simp only
  rw [if_pos h]
structure Right (l : List Ru) (n0 n : Int) : Prop where
  all : ∀ r ∈ l, 1 ≤ r.n ∧ okW r.w = true
  sum : n = n0 + sumN l
  le : n ≤ 100000
  ge : n0 ≤ n
theorem fold_right : ∀ (l : List Ru) (n0 : Int) (p0 : Option W3) (n : Int) (p : Option W3), n0 ≤ 100000 → l.foldl stepT (some (n0, p0)) = some (n, p) → Right l n0 n
  | [], n0, p0, n, p, h0, h => by
    simp only [List.foldl_nil, Option.some.injEq, Prod.mk.injEq] at h
    obtain ⟨rfl, rfl⟩ := h
    exact ⟨by simp, by simp [sumN], h0, Int.le_refl _⟩
  | r :: l, n0, p0, n, p, h0, h => by
    rw [List.foldl_cons] at h
    cases hs : stepT (some (n0, p0)) r with
    | none => rw [hs, foldT_none] at h; cases h
    | some x =>
      obtain ⟨h1, h2, h3, h4, rfl⟩ := step_some (s := none) hs
      rw [hs] at h
      have ih := fold_right l _ _ n p h2 h
      refine ⟨?_, ?_, ih.le, by have := ih.ge; omega⟩
      · intro q hq
        rcases List.mem_cons.1 hq with rfl | hq
        · exact ⟨h1, h3⟩
        · exact ih.all q hq
      · have := ih.sum
        simp only [sumN, List.map_cons, List.sum_cons] at this ⊢
        omega
theorem tot_right {l : List Ru} {n : Int} {p : Option W3} (h : totT l = some (n, p)) : Right l 0 n := fold_right l 0 none n p (by omega) h

theorem sumN_ge : ∀ (l : List Ru), (∀ q ∈ l, 0 ≤ q.n) → 0 ≤ sumN l
  | [], _ => by simp [sumN]
  | r :: l, h => by
    have := sumN_ge l (fun q hq => h q (by simp [hq]))
    have := h r (by simp)
    simp only [sumN, List.map_cons, List.sum_cons] at *
    omega
theorem sumN_take : ∀ (l : List Ru) (k : Nat), (∀ q ∈ l, 0 ≤ q.n) → sumN (l.take k) ≤ sumN l
  | [], k, _ => by simp
  | r :: l, 0, h => by simpa [sumN] using sumN_ge (r :: l) h
  | r :: l, k + 1, h => by
    have := sumN_take l k (fun q hq => h q (by simp [hq]))
    simp only [sumN, List.take_succ_cons, List.map_cons, List.sum_cons] at this ⊢
    omega
theorem expand_cons (r : Ru) (l : List Ru) : expand (r :: l) = List.replicate r.n.toNat (cellU r.w) ++ expand l := by simp [expand]
theorem expand_app (l m : List Ru) : expand (l ++ m) = expand l ++ expand m := by simp [expand]
theorem expand_len : ∀ (l : List Ru), (∀ r ∈ l, 0 ≤ r.n) → ((expand l).length : Int) = sumN l
  | [], _ => rfl
  | r :: l, h => by
    have ih := expand_len l (fun q hq => h q (by simp [hq]))
    have h0 := h r (by simp)
    rw [expand_cons, List.length_append, List.length_replicate]
    simp only [sumN, List.map_cons, List.sum_cons] at ih ⊢
    omega
theorem expand_take {l : List Ru} {k : Nat} (hk : k < l.length) : expand (l.take (k + 1)) = expand (l.take k) ++ List.replicate l[k].n.toNat (cellU l[k].w) := by
  rw [List.take_succ_eq_append_getElem hk, expand_app]
  simp [expand]

theorem add_last (rs : List Ru) (r : Ru) : lastW (addRun rs r) = some r.w := by
  fun_induction addRun rs r with
  | case1 r => rfl
  | case2 q r h => simp [lastW, h]
  | case3 q r h => simp [lastW]
  | case4 q q' l r ih =>
    unfold lastW at ih ⊢
    cases hh : addRun (q' :: l) r with
    | nil => rw [hh] at ih; cases ih
    | cons x y => rw [hh] at ih; simpa [List.getLast?_cons_cons] using ih
theorem add_ne : ∀ (rs : List Ru) (r : Ru), lastW rs ≠ some r.w → addRun rs r = rs ++ [r]
  | [], r, h => rfl
  | [q], r, h => by simp [lastW] at h; simp [addRun, h]
  | q :: q' :: l, r, h => by
    rw [addRun, add_ne (q' :: l) r (by simpa [lastW, List.getLast?_cons_cons] using h)]
    rfl
theorem add_eq : ∀ (rs : List Ru) (r : Ru) (n : Nat) (hn : rs.length = n + 1), rs[n].w = r.w → addRun rs r = rs.set n ⟨rs[n].n + r.n, rs[n].w⟩
  | [], r, n, hn, h => by simp at hn
  | [q], r, n, hn, h => by
    simp at hn
    subst hn
    simp at h
    simp [addRun, h]
  | q :: q' :: l, r, n, hn, h => by
    match n, hn with
    | 0, hn => simp at hn
    | n + 1, hn =>
      simp only [List.getElem_cons_succ] at h ⊢
      rw [addRun, add_eq (q' :: l) r n (by simpa using hn) h, List.set_cons_succ]
theorem last_at {rs : List Ru} {n : Nat} (hn : rs.length = n + 1) : lastW rs = some (rs[n]'(by omega)).w := by
  unfold lastW
  rw [List.getLast?_eq_getElem?, show rs.length - 1 = n by omega, List.getElem?_eq_getElem (by omega)]
  rfl
theorem add_two (rs : List Ru) (x y : Int) (w : W3) : addRun (addRun rs ⟨x, w⟩) ⟨y, w⟩ = addRun rs ⟨x + y, w⟩ := by
  match rs with
  | [] => simp [addRun]
  | [q] =>
    by_cases h : q.w = w
    · simp [addRun, h]; omega
    · simp [addRun, h]
  | q :: q' :: l =>
    rw [addRun, addRun, ← add_two (q' :: l) x y w]
    have hl := add_last (q' :: l) ⟨x, w⟩
    cases hh : addRun (q' :: l) ⟨x, w⟩ with
    | nil => rw [hh] at hl; cases hl
    | cons z t => rfl
theorem add_many (rs : List Ru) (w : W3) : ∀ (m : Nat), (List.replicate (m + 1) (⟨1, w⟩ : Ru)).foldl addRun rs = addRun rs ⟨(m + 1 : Nat), w⟩
  | 0 => rfl
  | m + 1 => by
    rw [List.replicate_succ', List.foldl_append, add_many rs w m, List.foldl_cons, List.foldl_nil, add_two]
    congr 2
theorem add_expand : ∀ (l : List Ru) (rs : List Ru), (∀ r ∈ l, 1 ≤ r.n ∧ okW r.w = true) → ((expand l).map oneR).foldl addRun rs = l.foldl addRun rs
  | [], rs, h => rfl
  | r :: l, rs, h => by
    obtain ⟨h1, h2⟩ := h r (by simp)
    have e : r.n.toNat = (r.n.toNat - 1) + 1 := by omega
    have e2 : (List.replicate r.n.toNat (cellU r.w)).map oneR = List.replicate r.n.toNat ⟨1, r.w⟩ := by rw [List.map_replicate]; unfold oneR; rw [(okW_valid h2).2]
    rw [expand_cons, List.map_append, List.foldl_append, e2, e, add_many, add_expand l _ (fun q hq => h q (by simp [hq])), List.foldl_cons]
    congr 2
    rw [show ((r.n.toNat - 1 + 1 : Nat) : Int) = r.n by omega]
theorem fold_same : ∀ (l rs : List Ru) (n : Int) (x : Int × Option W3), l.foldl stepT (some (n, lastW rs)) = some x → l.foldl addRun rs = rs ++ l
  | [], rs, n, x, h => by simp
  | r :: l, rs, n, x, h => by
    rw [List.foldl_cons] at h
    cases hs : stepT (some (n, lastW rs)) r with
    | none => rw [hs, foldT_none] at h; cases h
    | some y =>
      obtain ⟨h1, h2, h3, h4, rfl⟩ := step_some (s := none) hs
      rw [hs] at h
      have e := add_ne rs r h4
      rw [List.foldl_cons, e, fold_same l (rs ++ [r]) (n + r.n) x (by rw [show lastW (rs ++ [r]) = some r.w by simp [lastW]]; exact h)]
      simp
theorem right_same {l : List Ru} {n : Int} {p : Option W3} (h : totT l = some (n, p)) : l.foldl addRun [] = l := by
  have := fold_same l [] 0 (n, p) h
  simpa using this
theorem pack_expand {l : List Ru} {n : Int} {p : Option W3} (h : totT l = some (n, p)) : packL (expand l) = l := by
  unfold packL
  rw [add_expand l [] (tot_right h).all, right_same h]
theorem packL_app (x y : List Cl) : packL (x ++ y) = (y.map oneR).foldl addRun (packL x) := by
  unfold packL
  rw [List.map_append, List.foldl_append]
/-- Runs of both, one behind the other. -/
theorem join_is {a b : List Ru} {n m : Int} {p q : Option W3} (ha : totT a = some (n, p)) (hb : totT b = some (m, q)) : packL (expand a ++ expand b) = b.foldl addRun a := by
  rw [packL_app, pack_expand ha, add_expand b a (tot_right hb).all]
theorem packL_take {l : List Cl} {k : Nat} (hk : k < l.length) : packL (l.take (k + 1)) = addRun (packL (l.take k)) (oneR l[k]) := by
  rw [List.take_succ_eq_append_getElem hk, packL_app]
  rfl
/-- A group of equal cells. -/
theorem packL_group (x : List Cl) (c : Cl) (m : Nat) (h : lastW (packL x) ≠ some (wordsC c)) : packL (x ++ List.replicate (m + 1) c) = packL x ++ [⟨(m + 1 : Nat), wordsC c⟩] := by
  rw [packL_app, List.map_replicate]
  unfold oneR
  rw [add_many, add_ne _ _ h]
theorem packL_last (x : List Cl) (c : Cl) : lastW (packL (x ++ [c])) = some (wordsC c) := by
  rw [packL_app]
  exact add_last _ _
theorem packL_last' (x : List Cl) (c : Cl) (m : Nat) : lastW (packL (x ++ List.replicate (m + 1) c)) = some (wordsC c) := by
  rw [List.replicate_succ', ← List.append_assoc]
  exact packL_last _ _

theorem tot_add : ∀ (rs : List Ru) (r : Ru) (n0 : Int) (p0 : Option W3) (n : Int) (p : Option W3), rs.foldl stepT (some (n0, p0)) = some (n, p) → (rs = [] → p0 ≠ some r.w) → n + r.n ≤ 100000 → 1 ≤ r.n → okW r.w = true →
    (addRun rs r).foldl stepT (some (n0, p0)) = some (n + r.n, some r.w)
  | [], r, n0, p0, n, p, h, hp, h1, h2, h3 => by
    simp only [List.foldl_nil, Option.some.injEq, Prod.mk.injEq] at h
    obtain ⟨rfl, rfl⟩ := h
    exact step_ok h2 h1 h3 (hp rfl)
  | [q], r, n0, p0, n, p, h, hp, h1, h2, h3 => by
    rw [List.foldl_cons, List.foldl_nil] at h
    obtain ⟨g1, g2, g3, g4, g5⟩ := step_some (s := none) h
    simp only [Prod.mk.injEq] at g5
    obtain ⟨rfl, rfl⟩ := g5
    by_cases e : q.w = r.w
    · rw [addRun, if_pos e, List.foldl_cons, List.foldl_nil, step_ok (r := ⟨q.n + r.n, q.w⟩) (by simp only; omega) (by simp only; omega) g3 g4]
      simp only [e]
      congr 2
      omega
    · rw [addRun, if_neg e, List.foldl_cons, List.foldl_cons, List.foldl_nil, h]
      exact step_ok h2 h1 h3 (by simpa using e)
  | q :: q' :: l, r, n0, p0, n, p, h, hp, h1, h2, h3 => by
    rw [addRun, List.foldl_cons]
    rw [List.foldl_cons] at h
    cases hs : stepT (some (n0, p0)) q with
    | none => rw [hs, foldT_none] at h; cases h
    | some y =>
      obtain ⟨y1, y2⟩ := y
      rw [hs] at h
      exact tot_add (q' :: l) r y1 y2 n p h (by simp) h1 h2 h3
theorem tot_pack : ∀ (k : Nat) (l : List Cl), k ≤ l.length → l.length ≤ 100000 → (∀ c ∈ l, validC c = true) → (∀ c ∈ l, PnB c.p) → ∃ p, totT (packL (l.take k)) = some ((k : Int), p)
  | 0, l, hk, hl, hv, hb => ⟨none, rfl⟩
  | k + 1, l, hk, hl, hv, hb => by
    obtain ⟨p, ih⟩ := tot_pack k l (by omega) hl hv hb
    have hk' : k < l.length := by omega
    rw [packL_take hk']
    have := tot_add _ (oneR l[k]) 0 none k p ih (by simp) (by simp only [oneR]; omega) (by simp [oneR]) (words_ok (hv _ (List.getElem_mem hk')) (hb _ (List.getElem_mem hk')))
    refine ⟨some (oneR l[k]).w, ?_⟩
    have e : (k : Int) + (oneR l[k]).n = ((k + 1 : Nat) : Int) := by simp [oneR]
    rw [← e]
    exact this
theorem pack_tot {l : List Cl} (hl : l.length ≤ 100000) (hv : ∀ c ∈ l, validC c = true) (hb : ∀ c ∈ l, PnB c.p) : ∃ p, totT (packL l) = some ((l.length : Int), p) := by
  have := tot_pack l.length l (Nat.le_refl _) hl hv hb
  rwa [List.take_length] at this
theorem add_len : ∀ (rs : List Ru) (r : Ru), (addRun rs r).length ≤ rs.length + 1
  | [], r => by simp [addRun]
  | [q], r => by rw [addRun]; split <;> simp
  | q :: q' :: l, r => by rw [addRun, List.length_cons, List.length_cons]; have := add_len (q' :: l) r; omega
theorem pack_len : ∀ (k : Nat) (l : List Cl), k ≤ l.length → (packL (l.take k)).length ≤ k
  | 0, l, _ => by simp [packL]
  | k + 1, l, h => by
    rw [packL_take (by omega)]
    have := add_len (packL (l.take k)) (oneR l[k])
    have := pack_len k l (by omega)
    omega
theorem pack_len' (l : List Cl) : (packL l).length ≤ l.length := by
  have := pack_len l.length l (Nat.le_refl _)
  rwa [List.take_length] at this
theorem expand_add : ∀ (rs : List Ru) (r : Ru), (∀ q ∈ rs, 0 ≤ q.n) → 0 ≤ r.n → expand (addRun rs r) = expand rs ++ List.replicate r.n.toNat (cellU r.w)
  | [], r, h, h0 => by simp [addRun, expand]
  | [q], r, h, h0 => by
    have hq := h q (by simp)
    rw [addRun]
    split
    · rename_i e
      have e3 : (q.n + r.n).toNat = q.n.toNat + r.n.toNat := by omega
      simp only [expand_cons, e3, ← e, ← List.replicate_append_replicate]
      simp [expand]
    · simp [expand]
  | q :: q' :: l, r, h, h0 => by
    rw [addRun, expand_cons, expand_add (q' :: l) r (fun x hx => h x (by simp at hx ⊢; right; exact hx)) h0, expand_cons q, List.append_assoc]
theorem expand_pack : ∀ (k : Nat) (l : List Cl), k ≤ l.length → l.length ≤ 100000 → (∀ c ∈ l, validC c = true) → (∀ c ∈ l, PnB c.p) → expand (packL (l.take k)) = l.take k
  | 0, l, hk, hl, hv, hb => rfl
  | k + 1, l, hk, hl, hv, hb => by
    have hk' : k < l.length := by omega
    obtain ⟨p, ht⟩ := tot_pack k l (by omega) hl hv hb
    rw [packL_take hk', expand_add _ _ (fun q hq => by have := ((tot_right ht).all q hq).1; omega) (by simp [oneR]), expand_pack k l (by omega) hl hv hb, List.take_succ_eq_append_getElem hk']
    congr 1
    have := words_cell (hv _ (List.getElem_mem hk')) (hb _ (List.getElem_mem hk'))
    simp [oneR, this]
theorem pack_back {l : List Cl} (hl : l.length ≤ 100000) (hv : ∀ c ∈ l, validC c = true) (hb : ∀ c ∈ l, PnB c.p) : expand (packL l) = l := by
  have := expand_pack l.length l (Nat.le_refl _) hl hv hb
  rwa [List.take_length] at this

theorem expand_take_len {l : List Ru} {n : Int} {p : Option W3} (h : totT l = some (n, p)) (k : Nat) : ((expand (l.take k)).length : Int) ≤ 100000 := by
  have hr := tot_right h
  have h0 : ∀ q ∈ l, 0 ≤ q.n := fun q hq => by have := (hr.all q hq).1; omega
  rw [expand_len _ (fun q hq => h0 q (List.mem_of_mem_take hq))]
  have h1 := sumN_take l k h0
  have := hr.sum
  have := hr.le
  omega
/-- How large counts become. -/
structure FineR (l : List Ru) (B : Int) : Prop where
  ge : ∀ q ∈ l, 0 ≤ q.n
  sum : sumN l ≤ B
theorem sum_ge : ∀ (l : List Ru), (∀ q ∈ l, 0 ≤ q.n) → 0 ≤ sumN l
  | [], _ => by simp [sumN]
  | r :: l, h => by
    have := sum_ge l (fun q hq => h q (by simp [hq]))
    have := h r (by simp)
    simp only [sumN, List.map_cons, List.sum_cons] at *
    omega
theorem FineR.mem {B : Int} : ∀ {l : List Ru}, FineR l B → ∀ q ∈ l, 0 ≤ q.n ∧ q.n ≤ B
  | [], _ => by simp
  | r :: l, h => by
    have h1 := sum_ge l (fun q hq => h.ge q (by simp [hq]))
    have h2 := h.ge r (by simp)
    have h3 := h.sum
    simp only [sumN, List.map_cons, List.sum_cons] at h1 h3
    intro q hq
    rcases List.mem_cons.1 hq with rfl | hq
    · exact ⟨h2, by omega⟩
    · have := FineR.mem (l := l) (B := B) ⟨fun x hx => h.ge x (by simp [hx]), by simp only [sumN]; omega⟩ q hq
      exact this
theorem sum_add : ∀ (rs : List Ru) (r : Ru), sumN (addRun rs r) = sumN rs + r.n
  | [], r => by simp [addRun, sumN]
  | [q], r => by rw [addRun]; split <;> simp [sumN]
  | q :: q' :: l, r => by
    have := sum_add (q' :: l) r
    rw [addRun]
    simp only [sumN, List.map_cons, List.sum_cons] at this ⊢
    omega
theorem ge_add : ∀ (rs : List Ru) (r : Ru), (∀ q ∈ rs, 0 ≤ q.n) → 0 ≤ r.n → ∀ q ∈ addRun rs r, 0 ≤ q.n
  | [], r, h, h0 => by simpa [addRun] using h0
  | [q], r, h, h0 => by
    have := h q (by simp)
    rw [addRun]
    split
    · simp; omega
    · simp; exact ⟨this, h0⟩
  | q :: q' :: l, r, h, h0 => by
    rw [addRun]
    intro x hx
    rcases List.mem_cons.1 hx with rfl | hx
    · exact h _ (by simp)
    · exact ge_add (q' :: l) r (fun y hy => h y (by simp at hy ⊢; right; exact hy)) h0 x hx
theorem FineR.add {l : List Ru} {B : Int} (h : FineR l B) {r : Ru} (h0 : 0 ≤ r.n) : FineR (addRun l r) (B + r.n) :=
  ⟨ge_add l r h.ge h0, by rw [sum_add]; have := h.sum; omega⟩
theorem Right.fine {l : List Ru} {n : Int} (h : Right l 0 n) : FineR l n := ⟨fun q hq => by have := (h.all q hq).1; omega, by have := h.sum; omega⟩
theorem pack_fine : ∀ (k : Nat) (l : List Cl), k ≤ l.length → FineR (packL (l.take k)) (k : Int)
  | 0, l, _ => ⟨by simp [packL], by simp [packL, sumN]⟩
  | k + 1, l, h => by
    rw [packL_take (by omega)]
    have := (pack_fine k l (by omega)).add (r := oneR l[k]) (by simp [oneR])
    have e : (k : Int) + (oneR l[k]).n = ((k + 1 : Nat) : Int) := by simp [oneR]
    rwa [e] at this
theorem sum_take : ∀ (l : List Ru) (k : Nat), (∀ q ∈ l, 0 ≤ q.n) → sumN (l.take k) ≤ sumN l
  | [], k, _ => by simp
  | r :: l, 0, h => by simpa [sumN] using sum_ge (r :: l) h
  | r :: l, k + 1, h => by
    have := sum_take l k (fun q hq => h q (by simp [hq]))
    simp only [sumN, List.take_succ_cons, List.map_cons, List.sum_cons] at this ⊢
    omega
theorem join_take {x y : List Ru} {k : Nat} (hk : k < y.length) : (y.take (k + 1)).foldl addRun x = addRun ((y.take k).foldl addRun x) y[k] := by
  rw [List.take_succ_eq_append_getElem hk, List.foldl_append]
  rfl
theorem join_fine {x y : List Ru} {A : Int} (hx : FineR x A) (hy : ∀ q ∈ y, 0 ≤ q.n) : ∀ (k : Nat), k ≤ y.length → FineR ((y.take k).foldl addRun x) (A + sumN (y.take k))
  | 0, _ => by simpa [sumN] using hx
  | k + 1, h => by
    have hk : k < y.length := by omega
    rw [join_take hk]
    have := (join_fine hx hy k (by omega)).add (r := y[k]) (hy _ (List.getElem_mem hk))
    have e : sumN (y.take (k + 1)) = sumN (y.take k) + y[k].n := by
      rw [List.take_succ_eq_append_getElem hk]
      unfold sumN
      rw [List.map_append, List.sum_append]
      simp
    rw [e, ← Int.add_assoc]
    exact this
theorem join_len {x y : List Ru} : ∀ (k : Nat), k ≤ y.length → ((y.take k).foldl addRun x).length ≤ x.length + k
  | 0, _ => by simp
  | k + 1, h => by
    rw [join_take (by omega)]
    have := add_len ((y.take k).foldl addRun x) y[k]
    have := join_len (x := x) (y := y) k (by omega)
    omega
theorem join_mem {x y : List Ru} {n m : Int} {p q : Option W3} (hx : totT x = some (n, p)) (hy : totT y = some (m, q)) (k : Nat) (hk : k ≤ y.length) : ∀ z ∈ (y.take k).foldl addRun x, 0 ≤ z.n ∧ z.n ≤ 200000 := by
  have rx := tot_right hx
  have ry := tot_right hy
  have hy0 : ∀ q ∈ y, 0 ≤ q.n := fun q hq => by have := (ry.all q hq).1; omega
  intro z hz
  have := (join_fine rx.fine hy0 k hk).mem z hz
  have h1 := sum_take y k hy0
  have := ry.sum
  have := ry.le
  have := rx.le
  omega
end Go.Proofs.YtpdjlollijbdeaaDoor
