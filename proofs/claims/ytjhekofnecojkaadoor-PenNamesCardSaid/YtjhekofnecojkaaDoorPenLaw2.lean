/- The walk of PenNames. -/
import Derived.Test.YtjhekofnecojkaaDoorPenKnown
namespace Go.Proofs.YtjhekofnecojkaaDoor
open Go.RowKit
set_option linter.unusedVariables false

theorem words_apart (k : Nat) (hk : k < 8) : (∀ i, i < k → ((wordB i).toList == (wordB k).toList) = false) ∧ ((wordB k).toList == (wordB k).toList) = true := by
  refine ⟨fun i hi => ?_, by simp⟩
  rw [bytes_eq]
  have h : ∀ a b : Fin 8, a.val < b.val → ((wordB a.val).data.toList == (wordB b.val).data.toList) = false := by decide
  exact h ⟨i, by omega⟩ ⟨k, hk⟩ hi
theorem first_word (s : ByteArray) : ∃ n, n ≤ 8 ∧ (∀ i, i < n → ((wordB i).toList == s.toList) = false) ∧ (n < 8 → ((wordB n).toList == s.toList) = true) := by
  have key : ∀ m, m ≤ 8 → (∃ n, n ≤ m ∧ (∀ i, i < n → ((wordB i).toList == s.toList) = false) ∧ (n < m → ((wordB n).toList == s.toList) = true)) := by
    intro m
    induction m with
    | zero => exact fun _ => ⟨0, Nat.le_refl _, fun i hi => absurd hi (Nat.not_lt_zero _), fun h => absurd h (Nat.lt_irrefl _)⟩
    | succ m ih =>
      intro hm
      obtain ⟨n, hn, h1, h2⟩ := ih (by omega)
      by_cases c : n < m
      · exact ⟨n, by omega, h1, fun _ => h2 c⟩
      · obtain rfl : n = m := by omega
        cases q : ((wordB n).toList == s.toList)
        · refine ⟨n + 1, Nat.le_refl _, fun i hi => ?_, fun h => absurd h (Nat.lt_irrefl _)⟩
          rcases Nat.lt_succ_iff_lt_or_eq.1 hi with h | h
          · exact h1 i h
          · rw [h]; exact q
        · exact ⟨n, by omega, h1, fun _ => q⟩
  obtain ⟨n, hn, h1, h2⟩ := key 8 (Nat.le_refl _)
  exact ⟨n, hn, h1, h2⟩
theorem shl_val (k : Nat) (hk : k < 8) : IntKind.u8.wrap ((2 : Int) ^ k) = flagI k := by
  have h := flag_byte hk
  unfold flagI at h ⊢
  rw [IntKind.wrap_u8]
  have h0 := h.1
  have h1 := h.2
  omega

set_option maxHeartbeats 4000000 in
theorem PenNames_walk (f : Int) (s : ByteArray) (hf : Byte f) (w : World) (ht : WordsAt w) : Calls Tryd.prog 6 #[.int .u8 f, .string s] w fun e w' => e = .returned (.bool true) ∧ Kept [] w w' := by
  have hkn := hide (fun w1 hk => known_any w1 (ht.kept hk (by simp)) : ∀ w1, Kept [] w w1 → _)
  have hT := hide ht
  clear ht
  by_cases hlen : 40 < s.size
  · go_enter Tryd.func6, Tryd.ntmps6
    go_wp2_with fail
    refine (hkn.out _ (Kept.refl _ _)).mono ?_
    rintro e w1 ⟨rfl, hk1⟩
    go_wp2_with fail
    go_ret
    exact ⟨rfl, hk1⟩
  obtain ⟨n, hn, hbefore, hat⟩ := first_word s
  have hB := hide hbefore
  have hA := hide hat
  clear hbefore hat
  have hlen' : (s.size : Int) ≤ 40 := by omega
  have hN := hide (fun w1 => Number_any f hf w1)
  have hF := hide hf
  clear hf hlen
  go_enter Tryd.func6, Tryd.ntmps6
  go_wp2_with fail
  refine (All_any _).mono ?_
  rintro e w1 ⟨a, c, rfl, hO, hk1⟩
  obtain ⟨g, rfl, _⟩ := hO.form (by omega)
  have hR := hide hO.rd
  clear hO
  go_wp2_with fail
  refine (Words_any _).mono ?_
  rintro e w2 ⟨b, rfl, hb, hW, hk2⟩
  have hW' := hide hW
  have hR2 := hide (hR.out.kept hk2 (by simp))
  have hK2 := hk1.trans hk2 (by simp)
  clear hW hR hk1 hk2 hb
  go_wp2_with fail
  go_loopg [6, 19] 8 (fun kx s6 s19 wr => ∃ (k : Nat) (fd : Bool), s6 = .bool fd ∧ s19 = .int .i64 k ∧ k ≤ 8 ∧ 8 - k ≤ kx ∧ Hid (fd = decide (n < k)) ∧ Kept [] w2 wr)
  case atStart => exact ⟨0, false, rfl, rfl, Nat.zero_le _, by omega, hide (by simp), Kept.refl _ _⟩
  case round =>
    obtain ⟨k, fd, rfl, rfl, hk, hg, hfd, hkr⟩ := hrel
    by_cases hlt : k < 8
    · have hk8 : (k : Int) < 8 := by omega
      have hwd : wr.cell? ⟨b, k, none⟩ = some (.string (wordB k)) := hkr.cell (hW'.out k hlt) (by simp)
      have hfl : wr.cell? ⟨g, k, none⟩ = some (.int .u8 (flagI k)) := by
        rcases (hR2.out.kept hkr (by simp)).2 with h0 | ⟨b0, o0, e0, hc⟩
        · simp [ints, flagsL] at h0
        · injection e0 with e0
          injection e0 with e1 e2
          subst e1 e2
          have := hc k (.int .u8 (flagI k)) (by simp [ints, flagsL_at k hlt])
          simpa using this
      have hsh := shl_val k hlt
      have hap := words_apart k hlt
      have hTr : WordsAt wr := hT.out.kept (hK2.trans hkr (by simp)) (by simp)
      have hC1 := hide (show ∀ m, Calls Tryd.prog 21 #[.string (wordB k), .int .u8 (flagI k), .int .i64 0] (wr.drewN m) fun e w' => e = .returned (.bool true) ∧ wr.drewN m = w' from fun m =>
        (byWord_is (wordB k) k (by omega) hap.1 (fun _ => hap.2) (flagI k) 0 (fun _ => ⟨rfl, rfl⟩) (fun h => absurd h (by omega)) _ (hTr.kept ((Kept.refl [] wr).drewN m) (by simp))).mono fun _ _ h => ⟨h.1, h.2.symm⟩)
      have hC2 := hide (show ∀ m, Calls Tryd.prog 22 #[.int .u8 (flagI k), .string (wordB k), .int .i64 0] (wr.drewN m) fun e w' => e = .returned (.bool true) ∧ wr.drewN m = w' from fun m =>
        (word_ok k hlt _ (hTr.kept ((Kept.refl [] wr).drewN m) (by simp))).mono fun _ _ h => ⟨h.1, h.2.symm⟩)
      clear hap hTr
      rcases Nat.lt_trichotomy k n with h3 | h3 | h3
      · have hq := hB.out k h3
        have hfd0 : fd = false := by rw [hfd.out]; simp; omega
        subst hfd0
        clear hB hA hfd hN hF
        generalize flagI k = fl at *
        generalize wordB k = v at *
        go_wp2_with fail
        go_quiet ((first | (go_at_call 21; exact quiet_left (hC1.out _)) | (go_at_call 22; exact quiet_left (hC2.out _))))
        go_wp2_with fail
        go_roundg (8 - (k + 1))
        case measure => omega
        case rel => exact ⟨k + 1, false, rfl, by push_cast; rfl, by omega, Nat.le_refl _, hide (by symm; simp; omega), hkr.drewN _⟩
      · subst h3
        have hq := hA.out hlt
        have hfd0 : fd = false := by rw [hfd.out]; simp
        subst hfd0
        clear hB hA hfd hN hF
        generalize flagI k = fl at *
        generalize wordB k = v at *
        go_wp2_with fail
        go_quiet ((first | (go_at_call 21; exact quiet_left (hC1.out _)) | (go_at_call 22; exact quiet_left (hC2.out _))))
        go_wp2_with fail
        go_roundg (8 - (k + 1))
        case measure => omega
        case rel => exact ⟨k + 1, true, rfl, by push_cast; rfl, by omega, Nat.le_refl _, hide (by symm; simp), hkr.drewN _⟩
      · have hfd0 : fd = true := by rw [hfd.out]; simp; omega
        subst hfd0
        clear hB hA hfd hN hF
        generalize flagI k = fl at *
        generalize wordB k = v at *
        go_wp2_with fail
        go_quiet ((first | (go_at_call 21; exact quiet_left (hC1.out _)) | (go_at_call 22; exact quiet_left (hC2.out _))))
        go_wp2_with fail
        go_roundg (8 - (k + 1))
        case measure => omega
        case rel => exact ⟨k + 1, true, rfl, by push_cast; rfl, by omega, Nat.le_refl _, hide (by symm; simp; omega), hkr.drewN _⟩
    · obtain rfl : k = 8 := by omega
      have hK : Kept [] w wr := hK2.trans hkr (by simp)
      have hTr : WordsAt wr := hT.out.kept hK (by simp)
      have hW8 := hide (fun (h8 : n = 8) => byWord_is s 8 (by omega) (fun i hi => hB.out i (by omega)) (fun h => absurd h (by omega)) 0 6 (fun h => absurd h (by omega)) (fun _ => ⟨rfl, rfl⟩) wr hTr)
      have hBad := hide (fun (h : oneI f = false) => word_bad f hF.out h wr)
      have hcase : (fd = true ∧ n < 8) ∨ (fd = false ∧ n = 8) := by
        rcases Nat.lt_or_ge n 8 with h | h
        · exact .inl ⟨by rw [hfd.out]; simpa using h, h⟩
        · exact .inr ⟨by rw [hfd.out]; simp; omega, by omega⟩
      have hNr := hide (hN.out wr)
      clear hB hA hfd hN hF hTr hT hg
      rcases hcase with ⟨rfl, h8⟩ | ⟨rfl, h8⟩
      · clear hW8
        go_wp2_with fail
        refine hNr.out.mono ?_
        rintro e w3 ⟨v, rfl, hv, hw3⟩
        have hw3 := hw3.symm
        subst hw3
        have HV := hide hv
        clear hv
        by_cases hv0 : 0 ≤ v
        · go_wp2_with fail
          refine (hkn.out _ hK).mono ?_
          rintro e w4 ⟨rfl, hk4⟩
          go_wp2_with fail
          go_ret
          exact ⟨rfl, hK.trans hk4 (by simp)⟩
        · have h1 : oneI f = false := by
            cases q : oneI f
            · rfl
            · exact absurd (HV.out.1 q) hv0
          have HB := hide (hBad.out h1)
          clear h1 hBad
          go_wp2_with fail
          refine HB.out.mono ?_
          rintro e w4 ⟨rfl, hw4⟩
          have hw4 := hw4.symm
          subst hw4
          go_wp2_with fail
          refine (hkn.out _ hK).mono ?_
          rintro e w5 ⟨rfl, hk5⟩
          go_wp2_with fail
          go_ret
          exact ⟨rfl, hK.trans hk5 (by simp)⟩
      · have HW := hide (hW8.out h8)
        clear hW8 h8
        go_wp2_with fail
        refine HW.out.mono ?_
        rintro e w6 ⟨rfl, hw6⟩
        have hw6 := hw6.symm
        subst hw6
        go_wp2_with fail
        refine hNr.out.mono ?_
        rintro e w3 ⟨v, rfl, hv, hw3⟩
        have hw3 := hw3.symm
        subst hw3
        have HV := hide hv
        clear hv
        by_cases hv0 : 0 ≤ v
        · go_wp2_with fail
          refine (hkn.out _ hK).mono ?_
          rintro e w4 ⟨rfl, hk4⟩
          go_wp2_with fail
          go_ret
          exact ⟨rfl, hK.trans hk4 (by simp)⟩
        · have h1 : oneI f = false := by
            cases q : oneI f
            · rfl
            · exact absurd (HV.out.1 q) hv0
          have HB := hide (hBad.out h1)
          clear h1 hBad
          go_wp2_with fail
          refine HB.out.mono ?_
          rintro e w4 ⟨rfl, hw4⟩
          have hw4 := hw4.symm
          subst hw4
          go_wp2_with fail
          refine (hkn.out _ hK).mono ?_
          rintro e w5 ⟨rfl, hk5⟩
          go_wp2_with fail
          go_ret
          exact ⟨rfl, hK.trans hk5 (by simp)⟩
end Go.Proofs.YtjhekofnecojkaaDoor
