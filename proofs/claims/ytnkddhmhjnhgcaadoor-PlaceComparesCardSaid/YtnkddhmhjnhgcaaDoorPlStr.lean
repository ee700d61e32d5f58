/- Layer 9: numbers and texts: the library's contracts in words of what is kept; number, Text, Parse. -/
import Derived.Test.YtnkddhmhjnhgcaaDoorPlLeaf
import Derived.Test.YtnkddhmhjnhgcaaDoorPlTxt
import Derived.Test.YtnkddhmhjnhgcaaDoorPlSh
import Derived.Lib.ItoaLen
namespace Go.Proofs.YtnkddhmhjnhgcaaDoor
open Go.RowKit Go.Sort
set_option linter.unusedVariables false
set_option linter.unusedSimpArgs false
set_option maxRecDepth 100000

/-- What the library reads: the table of powers of ten, both errors, and a number. -/
structure PlT (w : World) : Prop where
  pow : ∃ t fr, w.heap[3]? = some (.cells (Lib.pow10Tab.map fun z => Value.int .u64 z).toArray t fr)
  es : ∃ te pe, w.cell? ⟨4, 0, none⟩ = some (.iface te pe)
  er : ∃ te pe, w.cell? ⟨5, 0, none⟩ = some (.iface te pe)
  mx : ∃ m, w.cell? ⟨2, 0, none⟩ = some (.int .i64 m)
theorem PlT.kept {w w' : World} (h : PlT w) (hk : Kept [] w w') : PlT w' := by
  obtain ⟨⟨t, fr, h1⟩, ⟨a, b, h2⟩, ⟨c, d, h3⟩, ⟨m, h4⟩⟩ := h
  exact ⟨⟨t, fr, hk.heap h1 (by simp)⟩, ⟨a, b, hk.cell h2 (by simp)⟩, ⟨c, d, hk.cell h3 (by simp)⟩, ⟨m, hk.cell h4 (by simp)⟩⟩
theorem gPow : Tryd.prog.globalNamed "internal/strconv.uint64pow10" = some 3 := by kernel_rfl
theorem PlT.tab {w : World} (h : PlT w) : Lib.TabIs Tryd.prog w "internal/strconv.uint64pow10" .u64 Lib.pow10Tab := by
  obtain ⟨t, fr, h1⟩ := h.pow
  unfold Lib.TabIs World.var?
  rw [gPow, Option.bind_some, h1]
theorem kept_grow (w : World) (k : Nat) (os : Array Obj) : Kept [] w (grow (w.drewN k) os) :=
  ⟨rfl, rfl, rfl, by show w.heap.size ≤ (w.heap ++ os).size; simp, fun i hi _ => by show (w.heap ++ os)[i]? = _; exact Array.getElem?_append_left hi⟩
theorem Itoa_any (n : Int) (hn : Wd n) (w : World) (ht : PlT w) : Calls Tryd.prog 89 #[.int .i64 n] w fun e w' => e = .returned (.string ⟨(Lib.itoa n).toArray⟩) ∧ Kept [] w w' := by
  refine (strconv_Itoa n hn.1 hn.2 w ht.tab).mono ?_
  rintro e w' ⟨he, k, os, rfl⟩
  exact ⟨he, kept_grow w k os⟩
theorem Atoi_any (s : ByteArray) (hs : s.size ≤ 281474976710656) (w : World) (ht : PlT w) : Calls Tryd.prog 99 #[.string s] w fun e w' => ∃ er, e = .returned (.tuple #[.int .i64 (numA s.data.toList), er]) ∧ Kept [] w w' := by
  cases h : Lib.atoiAll s.data.toList with
  | ok v =>
    refine (strconv_Atoi_ok s (by omega) v h w).mono ?_
    rintro e w' ⟨he, hw⟩
    refine ⟨_, by rw [he]; unfold numA; rw [h], ?_⟩
    rcases hw with rfl | ⟨t, rfl⟩
    · exact Kept.refl _ _
    · exact Kept.of_below (Lib.bytesWorld_below _ _ _) []
  | «syntax» =>
    obtain ⟨te, pe, hc⟩ := ht.es
    refine (strconv_Atoi_syntax s hs h _ w hc (.inr ⟨te, pe, rfl⟩)).mono ?_
    rintro e w' ⟨N, he, _, _, hb⟩
    exact ⟨_, by rw [he]; unfold numA; rw [h], Kept.of_below hb []⟩
  | range =>
    obtain ⟨te, pe, hc⟩ := ht.er
    refine (strconv_Atoi_range s hs h _ w hc (.inr ⟨te, pe, rfl⟩)).mono ?_
    rintro e w' ⟨N, he, _, _, hb⟩
    exact ⟨_, by rw [he]; unfold numA; rw [h], Kept.of_below hb []⟩
theorem number_any (s : ByteArray) (hs : s.size ≤ 281474976710656) (w : World) (ht : PlT w) : Calls Tryd.prog 91 #[.string s] w fun e w' => e = .returned (.int .i64 (numA s.data.toList)) ∧ Kept [] w w' := by
  have hA := hide (Atoi_any s hs w ht)
  generalize numA s.data.toList = n at *
  clear ht hs
  go_enter Tryd.func91, Tryd.ntmps91
  go_wp2_with fail
  refine hA.out.mono ?_
  rintro e w1 ⟨er, rfl, hk⟩
  go_wp2_with fail
  go_ret
  exact ⟨rfl, hk⟩
theorem Cut_any (s : ByteArray) (hs : s.size < 4294967281) (w : World) (ht : PlT w) : Calls Tryd.prog 90 #[.string s, .string ⟨#[58]⟩] w fun e w' => ∃ v, e = .returned (.tuple #[.string ⟨(Lib.cut s.data.toList [58]).1.toArray⟩, .string ⟨(Lib.cut s.data.toList [58]).2.1.toArray⟩, v]) ∧ Kept [] w w' := by
  obtain ⟨m, hm⟩ := ht.mx
  refine (strings_Cut s ⟨#[58]⟩ m w hs hm).mono ?_
  rintro e w' ⟨he, n, rfl⟩
  exact ⟨_, he, (Kept.refl _ _).drewN n⟩
theorem itoa_nat {n : Int} (h : 0 ≤ n) : Lib.itoa n = decB n := by unfold Lib.itoa decB; rw [if_neg (by omega)]
theorem ba_text (A B : List UInt8) : (⟨A.toArray⟩ ++ ⟨#[58]⟩ ++ ⟨B.toArray⟩ : ByteArray) = ⟨(A ++ 58 :: B).toArray⟩ := by
  apply ByteArray.ext
  simp [ByteArray.data_append]
theorem Text_any (p : Pl) (w : World) (ht : PlT w) : Calls Tryd.prog 79 #[.agg #[.int .i64 p.l, .int .i64 p.c]] w fun e w' => e = .returned (.tuple #[.string ⟨(textE p).1.toArray⟩, .int .i64 (textE p).2]) ∧ Kept [] w w' := by
  have hV := hide (fun w => Valid_any p w)
  cases hv0 : vP p with
  | false =>
    have hR := hide (show textE p = ([], 2) by unfold textE; rw [if_neg (by simp [hv0])])
    rw [hv0] at hV
    clear hv0
    generalize textE p = R at *
    obtain ⟨l, c⟩ := p
    go_enter Tryd.func79, Tryd.ntmps79
    go_wp2_with fail
    refine (hV.out _).mono ?_
    rintro e w1 ⟨rfl, hk1⟩
    go_wp2_with fail
    refine bodyPost_ret (v := .tuple #[.string ⟨#[]⟩, .int .i64 2]) (by simp [results, Tryd.results79, go_sem]) rfl ?_
    exact ⟨by rw [hR.out], ((Kept.refl [] w).alloc _).trans hk1 (by simp)⟩
  | true =>
    have hv := (vP_iff p).1 hv0
    have hR := hide (show textE p = (decB p.l ++ 58 :: decB p.c, 0) by unfold textE; rw [if_pos hv0]; rfl)
    rw [hv0] at hV
    have i1 := hide (fun w ht => Itoa_any p.l (by unfold Wd; omega) w ht)
    have i2 := hide (fun w ht => Itoa_any p.c (by unfold Wd; omega) w ht)
    rw [itoa_nat hv.1] at i1
    rw [itoa_nat hv.2.2.1] at i2
    have n1 := Lib.itoa_length_le p.l (by omega) (by omega)
    have n2 := Lib.itoa_length_le p.c (by omega) (by omega)
    rw [itoa_nat hv.1] at n1
    rw [itoa_nat hv.2.2.1] at n2
    clear hv0 hv
    generalize textE p = R at *
    generalize decB p.l = A at *
    generalize decB p.c = B at *
    obtain ⟨l, c⟩ := p
    have hk0 : Kept [] w (w.alloc (.cells #[.int .i64 l, .int .i64 c] 49)) := (Kept.refl [] w).alloc _
    have c0 : (w.alloc (.cells #[.int .i64 l, .int .i64 c] 49)).cell? ⟨w.heap.size, 0, none⟩ = some (.int .i64 l) := by simp [go_sem]
    have c1 : (w.alloc (.cells #[.int .i64 l, .int .i64 c] 49)).cell? ⟨w.heap.size, 1, none⟩ = some (.int .i64 c) := by simp [go_sem]
    go_enter Tryd.func79, Tryd.ntmps79
    go_wp2_with fail
    refine (hV.out _).mono ?_
    rintro e w1 ⟨rfl, hk1⟩
    have hkw := hk0.trans hk1 (by simp)
    replace c0 := hk1.cell c0 (by simp)
    replace c1 := hk1.cell c1 (by simp)
    clear hk0 hk1
    have hT1 := hide (ht.kept hkw)
    have hz1 : (⟨A.toArray⟩ : ByteArray).size = A.length := by show A.toArray.size = _; simp
    have hz2 : (⟨B.toArray⟩ : ByteArray).size = B.length := by show B.toArray.size = _; simp
    have s1 : ¬ (9223372036854775807 < A.length + 1) := by omega
    have s2 : ¬ (9223372036854775807 < A.length + 1 + B.length) := by omega
    go_upto_region 3 with fail
    generalize w.heap.size = b at *
    refine wp_region_held_drew (S := (fun w' => w'.cell? ⟨b, 0, none⟩ = some (.int .i64 l) ∧ w'.cell? ⟨b, 1, none⟩ = some (.int .i64 c))) (by kernel_rfl) ?_ (fun hHeld => ?_)
    · (try dsimp only); (first | exact ⟨k3.cell c0 (by simp), k3.cell c1 (by simp)⟩ | exact ⟨k2.cell c0 (by simp), k2.cell c1 (by simp)⟩ | exact ⟨((Kept.refl [] w1).drew).cell c0 (by simp), ((Kept.refl [] w1).drew).cell c1 (by simp)⟩)
    refine wpAnyH_take (i := 0) (v := ?_) rfl (by kernel_rfl) (by kernel_rfl) (by kernel_rfl) (fun _ _ _ h => h) (Or.inl ⟨by rfl, ?_⟩) (by assumption) ?_
    rotate_left
    · (intro wq hSw; (try dsimp only at hSw); go_simp; try with_reducible rfl)
    try simp only [Act.put, List.getElem_toArray, List.getElem_cons_zero, List.setIfInBounds_toArray, List.set_cons_zero, List.set_cons_succ]
    refine wpAnyH_take (i := 1) (v := ?_) rfl (by kernel_rfl) (by kernel_rfl) (by kernel_rfl) (fun _ _ _ h => h) (Or.inl ⟨by rfl, ?_⟩) (by assumption) ?_
    rotate_left
    · (intro wq hSw; (try dsimp only at hSw); go_simp; try with_reducible rfl)
    try simp only [Act.put, List.getElem_toArray, List.getElem_cons_succ, List.getElem_cons_zero, List.setIfInBounds_toArray, List.set_cons_zero, List.set_cons_succ]
    refine wpAnyH_take (i := 4) (v := ?_) rfl (by kernel_rfl) (by kernel_rfl) (by kernel_rfl) (fun _ _ _ h => h) (Or.inl ⟨by rfl, ?_⟩) (by assumption) ?_
    rotate_left
    · (intro wq hSw; (try dsimp only at hSw); go_simp; try with_reducible rfl)
    try simp only [Act.put, List.getElem_toArray, List.getElem_cons_succ, List.getElem_cons_zero, List.setIfInBounds_toArray, List.set_cons_zero, List.set_cons_succ]
    refine wpAnyH_take (i := 5) (v := ?_) rfl (by kernel_rfl) (by kernel_rfl) (by kernel_rfl) (fun _ _ _ h => h) (Or.inl ⟨by rfl, ?_⟩) (by assumption) ?_
    rotate_left
    · (intro wq hSw; (try dsimp only at hSw); go_simp; try with_reducible rfl)
    try simp only [Act.put, List.getElem_toArray, List.getElem_cons_succ, List.getElem_cons_zero, List.setIfInBounds_toArray, List.set_cons_zero, List.set_cons_succ]
    refine wpAnyH_ready (rs := [2]) (by kernel_rfl) (by simp) ?_
    refine AllReadyH.cons rfl (fun K hK => ?_) AllReadyH.nil
    go_simp
    refine (i1.out _ (hT1.out.kept (Kept.refl [] w1).drew)).mono ?_; rintro e w2 ⟨rfl, j2⟩; have k2 : Kept [] w1 w2 := (Kept.refl [] w1).drew.trans j2 (by simp)
    try go_wp2_with fail
    refine hK.out _ _ ?_ (fun hHeld => ?_)
    · (try dsimp only); (first | exact ⟨k3.cell c0 (by simp), k3.cell c1 (by simp)⟩ | exact ⟨k2.cell c0 (by simp), k2.cell c1 (by simp)⟩ | exact ⟨((Kept.refl [] w1).drew).cell c0 (by simp), ((Kept.refl [] w1).drew).cell c1 (by simp)⟩)
    clear hK K
    try simp only [Act.put, List.getElem_toArray, List.getElem_cons_succ, List.getElem_cons_zero, List.setIfInBounds_toArray, List.set_cons_zero, List.set_cons_succ]
    refine wpAnyH_take (i := 3) (v := ?_) rfl (by kernel_rfl) (by kernel_rfl) (by kernel_rfl) (fun _ _ _ h => h) (Or.inl ⟨by rfl, ?_⟩) (by assumption) ?_
    rotate_left
    · (intro wq hSw; (try dsimp only at hSw); go_simp; try with_reducible rfl)
    try simp only [Act.put, List.getElem_toArray, List.getElem_cons_succ, List.getElem_cons_zero, List.setIfInBounds_toArray, List.set_cons_zero, List.set_cons_succ]
    refine wpAnyH_ready (rs := [6]) (by kernel_rfl) (by simp) ?_
    refine AllReadyH.cons rfl (fun K hK => ?_) AllReadyH.nil
    go_simp
    refine (i2.out _ (hT1.out.kept k2)).mono ?_; rintro e w3 ⟨rfl, j3⟩; have k3 : Kept [] w1 w3 := k2.trans j3 (by simp)
    try go_wp2_with fail
    refine hK.out _ _ ?_ (fun hHeld => ?_)
    · (try dsimp only); (first | exact ⟨k3.cell c0 (by simp), k3.cell c1 (by simp)⟩ | exact ⟨k2.cell c0 (by simp), k2.cell c1 (by simp)⟩ | exact ⟨((Kept.refl [] w1).drew).cell c0 (by simp), ((Kept.refl [] w1).drew).cell c1 (by simp)⟩)
    clear hK K
    try simp only [Act.put, List.getElem_toArray, List.getElem_cons_succ, List.getElem_cons_zero, List.setIfInBounds_toArray, List.set_cons_zero, List.set_cons_succ]
    refine wpAnyH_take (i := 7) (v := ?_) rfl (by kernel_rfl) (by kernel_rfl) (by kernel_rfl) (fun _ _ _ h => h) (Or.inl ⟨by rfl, ?_⟩) (by assumption) ?_
    rotate_left
    · (intro wq hSw; (try dsimp only at hSw); go_simp; try with_reducible rfl)
    try simp only [Act.put, List.getElem_toArray, List.getElem_cons_succ, List.getElem_cons_zero, List.setIfInBounds_toArray, List.set_cons_zero, List.set_cons_succ]
    refine wpAnyH_take (i := 8) (v := ?_) rfl (by kernel_rfl) (by kernel_rfl) (by kernel_rfl) (fun _ _ _ h => h) (Or.inl ⟨by rfl, ?_⟩) (by assumption) ?_
    rotate_left
    · (intro wq hSw; (try dsimp only at hSw); go_simp; try with_reducible rfl)
    try simp only [Act.put, List.getElem_toArray, List.getElem_cons_succ, List.getElem_cons_zero, List.setIfInBounds_toArray, List.set_cons_zero, List.set_cons_succ]
    refine wpAnyH_take (i := 9) (v := ?_) rfl (by kernel_rfl) (by kernel_rfl) (by kernel_rfl) (fun _ _ _ h => h) (Or.inl ⟨by rfl, ?_⟩) (by assumption) ?_
    rotate_left
    · (intro wq hSw; (try dsimp only at hSw); go_simp; try with_reducible rfl)
    try simp only [Act.put, List.getElem_toArray, List.getElem_cons_succ, List.getElem_cons_zero, List.setIfInBounds_toArray, List.set_cons_zero, List.set_cons_succ]
    refine wpAnyH_done (by kernel_rfl) ?_ _
    go_wp2_with fail
    refine bodyPost_ret (v := .tuple #[.string (⟨A.toArray⟩ ++ ⟨#[58]⟩ ++ ⟨B.toArray⟩), .int .i64 0]) (by simp [results, Tryd.results79, go_sem]) rfl ?_
    exact ⟨by rw [hR.out, ← ba_text], hkw.trans k3 (by simp)⟩
end Go.Proofs.YtnkddhmhjnhgcaaDoor
