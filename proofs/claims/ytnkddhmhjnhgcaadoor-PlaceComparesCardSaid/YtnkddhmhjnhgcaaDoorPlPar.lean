/- Layer 9: Parse. -/
import Derived.Test.YtnkddhmhjnhgcaaDoorPlStr
import Derived.Test.YtnkddhmhjnhgcaaDoorPlBox
namespace Go.Proofs.YtnkddhmhjnhgcaaDoor
open Go.RowKit Go.Sort
set_option linter.unusedVariables false
set_option linter.unusedSimpArgs false
set_option maxRecDepth 100000

theorem ba_size (l : List UInt8) : (⟨l.toArray⟩ : ByteArray).size = l.length := by show l.toArray.size = _; simp
theorem ba_list (l : List UInt8) : (⟨l.toArray⟩ : ByteArray).data.toList = l := by simp
theorem ba_eq (l : List UInt8) (s : ByteArray) : (⟨l.toArray⟩ : ByteArray) = s ↔ l = s.data.toList := by
  constructor
  · intro h; subst h; simp
  · intro h; subst h; simp
theorem cut_len (l r : List UInt8) : (Lib.cut l r).1.length ≤ l.length ∧ (Lib.cut l r).2.1.length ≤ l.length := by
  unfold Lib.cut
  split
  · simp; omega
  · simp
theorem ba_beq (l : List UInt8) (s : ByteArray) (h : ¬ (⟨l.toArray⟩ : ByteArray) = s) : (l == s.toList) = false := by
  rw [ByteArray.toList_eq, beq_eq_false_iff_ne]
  exact fun k => h ((ba_eq l s).2 k)
set_option maxHeartbeats 1000000 in
theorem Parse_any (s : ByteArray) (hs : s.size ≤ 1000) (w : World) (ht : PlT w) : Calls Tryd.prog 80 #[.string s] w fun e w' => e = .returned (.tuple #[.agg #[.int .i64 (parseE s.data.toList).1.l, .int .i64 (parseE s.data.toList).1.c], .int .i64 (parseE s.data.toList).2]) ∧ Kept [] w w' := by
  obtain ⟨l, hl⟩ : ∃ l, s.data.toList = l := ⟨_, rfl⟩
  have hll : l.length = s.size := by rw [← hl]; rfl
  obtain ⟨R, hR⟩ : ∃ R, parseE l = R := ⟨_, rfl⟩
  have hC := hide (fun w ht => Cut_any s (by omega) w ht)
  have hP := hide (fun w ht => Text_any (cutA l) w ht)
  have hn := cut_len l [58]
  obtain ⟨A, hA⟩ : ∃ A, (Lib.cut l [58]).1 = A := ⟨_, rfl⟩
  obtain ⟨B, hB⟩ : ∃ B, (Lib.cut l [58]).2.1 = B := ⟨_, rfl⟩
  have h1 := hide (fun w ht => number_any ⟨A.toArray⟩ (by rw [ba_size]; rw [← hA]; omega) w ht)
  have h2 := hide (fun w ht => number_any ⟨B.toArray⟩ (by rw [ba_size]; rw [← hB]; omega) w ht)
  rw [ba_list] at h1 h2
  have hq : cutA l = ⟨numA A, numA B⟩ := by unfold cutA; rw [hA, hB]
  rw [hl, hA, hB] at hC
  rw [hq] at hP
  rw [hl, hR]
  have hRd : R = if textE ⟨numA A, numA B⟩ = (l, 0) then (⟨numA A, numA B⟩, 0) else (p0, 6) := by rw [← hR, parseE, hq]
  have hRd := hide hRd
  have hT := hide ht
  clear hR hA hB hn hq ht
  generalize numA A = a at *
  generalize numA B = c at *
  obtain ⟨T, hTe⟩ : ∃ T, textE ⟨a, c⟩ = T := ⟨_, rfl⟩
  rw [hTe] at hP hRd
  have hT2 : T.2 = 0 ∨ T.2 = 2 := by rw [← hTe]; unfold textE; split <;> simp
  clear hTe
  obtain ⟨X, z⟩ := T
  simp only at hP hRd hT2
  have hk0 : Kept [] w (w.alloc (.cells #[.int .i64 0, .int .i64 0] 49)) := (Kept.refl [] w).alloc _
  have hsl := hide hl
  clear hl
  go_enter Tryd.func80, Tryd.ntmps80
  go_wp2_with fail
  refine (hC.out _ (hT.out.kept hk0)).mono ?_
  rintro e w1 ⟨v, rfl, j1⟩
  have k1 := hk0.trans j1 (by simp)
  go_wp2_with fail
  refine (h1.out _ (hT.out.kept k1)).mono ?_
  rintro e w2 ⟨rfl, j2⟩
  have k2 := k1.trans j2 (by simp)
  go_wp2_with fail
  refine (h2.out _ (hT.out.kept k2)).mono ?_
  rintro e w3 ⟨rfl, j3⟩
  have k3 := k2.trans j3 (by simp)
  have hx := PlB.new w3 ⟨a, c⟩
  have hz : PlB w3 w.heap.size p0 := (PlB.new w p0).kept ((j1.trans j2 (by simp)).trans j3 (by simp)) (by simp)
  have hlt := hz.lt
  go_wp2_with fail
  refine (hP.out _ (hT.out.kept (k3.alloc _))).mono ?_
  rintro e w4 ⟨rfl, j4⟩
  have hx4 := hide (hx.kept j4 (by simp))
  have hz4 := hide (hz.kept (((Kept.refl [] w3).alloc _).trans j4 (by simp)) (by simp))
  have k4 := hide ((k3.alloc (.cells #[.int .i64 a, .int .i64 c] 49)).trans j4 (by simp))
  clear hx hz k1 k2 k3 j1 j2 j3 j4 hk0
  have b0 := hx4.out.c0
  have b1 := hx4.out.c1
  have f0 := hz4.out.f0
  have f1 := hz4.out.f1
  have d0 := hz4.out.c0
  have d1 := hz4.out.c1
  simp only at b0 b1 d0 d1
  replace hlt := hide hlt
  generalize hg : w.heap.size = g at *
  replace hg := hide hg
  generalize w3.heap.size = m at *
  rcases hT2 with rfl | rfl
  · by_cases hX : (⟨X.toArray⟩ : ByteArray) = s
    · have hXl := hide ((ba_eq X s).1 hX)
      subst hX
      go_wp2_with fail
      refine bodyPost_ret (results_pl2 (v := .int .i64 0) rfl rfl (hz4.out.set ⟨a, c⟩) rfl) rfl ?_
      exact ⟨by rw [hRd.out, if_pos (by rw [← hsl.out])], k4.out.trans (kept_set _ _ _ _) (fun x hx => .inr (by have := hg.out; simp at hx; omega))⟩
    · have hX2 := ba_beq X s hX
      go_wp2_with fail
      refine bodyPost_ret (results_pl2 (v := .int .i64 6) rfl rfl (hz4.out.set p0) rfl) rfl ?_
      exact ⟨by rw [hRd.out, if_neg (fun h => hX ((ba_eq X s).2 (by rw [hsl.out]; exact congrArg Prod.fst h)))], k4.out.trans (kept_set _ _ _ _) (fun x hx => .inr (by have := hg.out; simp at hx; omega))⟩
  · go_wp2_with fail
    refine bodyPost_ret (results_pl2 (v := .int .i64 6) rfl rfl (hz4.out.set p0) rfl) rfl ?_
    exact ⟨by rw [hRd.out, if_neg (by simp)], k4.out.trans (kept_set _ _ _ _) (fun x hx => .inr (by have := hg.out; simp at hx; omega))⟩
end Go.Proofs.YtnkddhmhjnhgcaaDoor
