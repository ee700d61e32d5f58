/- Layer 9: the reference's Parse. -/
import Derived.Test.YtnkddhmhjnhgcabDoorPlRTxt
namespace Go.Proofs.YtnkddhmhjnhgcabDoor
open Go.RowKit Go.Sort
set_option linter.unusedVariables false
set_option linter.unusedSimpArgs false
set_option maxRecDepth 100000

/-- Two numbers in a box. -/
def TwoB (w : World) (b : Nat) (x y : Int) : Prop := w.heap[b]? = some (.cells #[.int .i64 x, .int .i64 y] 51 (0, 0))
section
variable {w w' : World} {b : Nat} {x y : Int}
theorem TwoB.kept {S : List Nat} (h : TwoB w b x y) (hk : Kept S w w') (hb : b ∉ S) : TwoB w' b x y := hk.heap h hb
theorem TwoB.c0 (h : TwoB w b x y) : w.cell? ⟨b, 0, none⟩ = some (.int .i64 x) := by unfold TwoB at h; simp [World.cell?, h]
theorem TwoB.c1 (h : TwoB w b x y) : w.cell? ⟨b, 1, none⟩ = some (.int .i64 y) := by unfold TwoB at h; simp [World.cell?, h]
theorem TwoB.f0 (h : TwoB w b x y) : w.frozen? ⟨b, 0, none⟩ = false := by unfold TwoB at h; simp [World.frozen?, h]
theorem TwoB.f1 (h : TwoB w b x y) : w.frozen? ⟨b, 1, none⟩ = false := by unfold TwoB at h; simp [World.frozen?, h]
theorem TwoB.s0 (h : TwoB w b x y) (z : Int) : TwoB (w.setCell ⟨b, 0, none⟩ (.int .i64 z)) b z y := plHeap_set _ b 0 (.int .i64 z) _ _ h
theorem TwoB.s1 (h : TwoB w b x y) (z : Int) : TwoB (w.setCell ⟨b, 1, none⟩ (.int .i64 z)) b x z := plHeap_set _ b 1 (.int .i64 z) _ _ h
end
theorem scan_take (l : List UInt8) (i : Nat) (h : i < l.length) : scan (l.take (i + 1)) ⟨0, 0, 0⟩ = (scan (l.take i) ⟨0, 0, 0⟩).bind (fun s => stp s l[i]) := by
  rw [List.take_succ_eq_append_getElem h, scan_app]
  congr 1
  funext s
  simp only [scan]
  cases stp s l[i] <;> rfl
theorem scan_stop (l : List UInt8) (i : Nat) (h : scan (l.take i) ⟨0, 0, 0⟩ = none) : scan l ⟨0, 0, 0⟩ = none := by
  rw [← List.take_append_drop i l, scan_app, h]
  rfl
theorem scan_bound (l : List UInt8) : ∀ (s t : Sc), scan l s = some t → (s.q ≤ 1 ∧ 0 ≤ s.a ∧ s.a ≤ 10995116277769 ∧ 0 ≤ s.b ∧ s.b ≤ 10995116277769) → t.q ≤ 1 ∧ 0 ≤ t.a ∧ t.a ≤ 10995116277769 ∧ 0 ≤ t.b ∧ t.b ≤ 10995116277769 := by
  induction l with
  | nil =>
    intro s t h hs
    injection h with h
    subst h
    exact hs
  | cons c l ih =>
    intro s t h hs
    simp only [scan] at h
    cases hq : stp s c with
    | none => rw [hq] at h; cases h
    | some u => rw [hq] at h; exact ih u t h (stp_bound hq hs)
theorem stp_bad {s : Sc} {c : UInt8} (h : ¬ c.toNat = 58) (k : c.toNat < 48 ∨ 57 < c.toNat ∨ 1099511627776 < (if s.q = 0 then s.a else s.b)) : stp s c = none := by
  unfold stp
  rw [if_neg h, if_pos k]
theorem stp_0 {a b : Int} {c : UInt8} (h : ¬ c.toNat = 58) (k : ¬ (c.toNat < 48 ∨ 57 < c.toNat ∨ 1099511627776 < a)) : stp ⟨0, a, b⟩ c = some ⟨0, 10 * a + ((c.toNat - 48 : Nat) : Int), b⟩ := by
  unfold stp
  rw [if_neg h, if_neg (by simpa using k), if_pos rfl]
theorem stp_1 {a b : Int} {c : UInt8} (h : ¬ c.toNat = 58) (k : ¬ (c.toNat < 48 ∨ 57 < c.toNat ∨ 1099511627776 < b)) : stp ⟨1, a, b⟩ c = some ⟨1, a, 10 * b + ((c.toNat - 48 : Nat) : Int)⟩ := by
  unfold stp
  rw [if_neg h, if_neg (by simpa using k), if_neg (by simp)]
def RPar (s : ByteArray) (w : World) (e : Ending) (w' : World) : Prop := e = .returned (.tuple #[.agg #[.int .i64 (parseE s.data.toList).1.l, .int .i64 (parseE s.data.toList).1.c], .bool (decide ((parseE s.data.toList).2 = 0))]) ∧ Kept [] w w'
set_option maxHeartbeats 4000000 in
theorem rParse_any (s : ByteArray) (hs : s.size ≤ 1000) (w : World) : Calls Tryd.prog 10 #[.string s] w (RPar s w) := by
  obtain ⟨l, hl⟩ : ∃ l, s.data.toList = l := ⟨_, rfl⟩
  have hll : l.length = s.size := by rw [← hl]; rfl
  have hll := hide hll
  have hl := hide hl
  have hk0 : Kept [] w ((w.alloc (.cells #[.int .i64 0, .int .i64 0] 23)).alloc (.cells #[.int .i64 0, .int .i64 0] 51)) := ((Kept.refl [] w).alloc _).alloc _
  have x0 : PlB ((w.alloc (.cells #[.int .i64 0, .int .i64 0] 23)).alloc (.cells #[.int .i64 0, .int .i64 0] 51)) w.heap.size p0 := (PlB.new w p0).kept ((Kept.refl [] _).alloc _) (by simp)
  have x1 : TwoB ((w.alloc (.cells #[.int .i64 0, .int .i64 0] 23)).alloc (.cells #[.int .i64 0, .int .i64 0] 51)) (w.heap.size + 1) 0 0 := heap_new_at (by simp)
  go_enter Tryd.func10, Tryd.ntmps10
  go_upto_region 3 with fail
  obtain ⟨W0, hW0⟩ : ∃ x : World, x = (w.alloc (.cells #[.int .i64 0, .int .i64 0] 23)).alloc (.cells #[.int .i64 0, .int .i64 0] 51) := ⟨_, rfl⟩
  rw [← hW0] at hk0 x0 x1 ⊢
  clear hW0
  generalize hg : w.heap.size = g at *
  replace hg := hide hg
  go_wp2_with fail
  go_loopg [5, 6, 8, 9, 10, 11, 12, 13, 14, 15, 16, 17, 18, 19, 20, 21, 22, 23, 24, 25, 26, 27, 28, 29, 30, 31, 32, 33, 34, 35, 36, 37, 38, 39, 40, 41, 42, 43, 44, 45, 46, 47, 48, 49, 50, 51] s.size (fun kx s5 s6 s8 s9 s10 s11 s12 s13 s14 s15 s16 s17 s18 s19 s20 s21 s22 s23 s24 s25 s26 s27 s28 s29 s30 s31 s32 s33 s34 s35 s36 s37 s38 s39 s40 s41 s42 s43 s44 s45 s46 s47 s48 s49 s50 s51 wr => ∃ (i q : Nat) (a b : Int), s5 = .int .i64 q ∧ s6 = .int .i64 i ∧ i ≤ s.size ∧ s.size - i ≤ kx ∧ Hid (scan (l.take i) ⟨0, 0, 0⟩ = some ⟨q, a, b⟩) ∧ Hid (TwoB wr (g + 1) a b) ∧ Hid (PlB wr g p0) ∧ Hid (Kept [] w wr))
  case atStart => exact ⟨0, 0, 0, 0, rfl, rfl, Nat.zero_le _, by omega, hide rfl, hide x1, hide x0, hide hk0⟩
  case round =>
    obtain ⟨i, q, a, b, rfl, rfl, hi, hgk, hsc, hx1, hx0, hkr⟩ := hrel
    have hbd := hide (scan_bound _ _ _ hsc.out (by simp))
    by_cases hlt : i < s.size
    · have hin : (i : Int) < (s.size : Int) := by omega
      have hi0 : (0 : Int) ≤ (i : Int) := by omega
      have hli : i < l.length := by rw [hll.out]; exact hlt
      have hnx := hide (scan_take l i hli)
      have hst := hide (fun h => scan_stop l (i + 1) h)
      rw [hsc.out] at hnx
      simp only [Option.bind_some] at hnx
      have hsi : s[i].toNat = (l[i]).toNat := by have := hl.out; subst this; rfl
      obtain ⟨c, hcc⟩ : ∃ c, s[i].toNat = c := ⟨_, rfl⟩
      have hcu : (l[i]'hli).toNat = c := by rw [← hsi, hcc]
      have hcl : c < 256 := by rw [← hcc]; exact UInt8.toNat_lt _
      clear hsi
      replace hli := hide hli
      generalize l[i]'hli.out = cu at *
      replace hcu := hide hcu
      have c1 : IntKind.i64.wrap ((i : Int) + 1) = ((i + 1 : Nat) : Int) := by rw [IntKind.wrap_i64]; omega
      replace hcu := hide hcu
      by_cases h58 : c = 58
      · have e58 : ((c : Int) == 58) = true := by simp [h58]
        have hs58 : stp ⟨q, a, b⟩ cu = if q = 0 then some ⟨1, a, b⟩ else none := by unfold stp; rw [if_pos (by rw [hcu.out]; exact h58)]
        rw [hs58] at hnx
        by_cases hq : q = 0
        · subst hq
          rw [if_pos rfl] at hnx
          go_wp2_with fail
          go_roundg (s.size - (i + 1))
          case measure => omega
          case rel => exact ⟨i + 1, 1, a, b, rfl, by push_cast; rfl, by omega, Nat.le_refl _, hnx, hx1, hx0, hkr⟩
        · obtain rfl : q = 1 := by have := hbd.out.1; simp only at this; omega
          rw [if_neg (by decide)] at hnx
          have hno := hide (hst.out hnx.out)
          have f0 := hx0.out.f0
          have f1 := hx0.out.f1
          have d0 := hx0.out.c0
          have d1 := hx0.out.c1
          go_wp2_with fail
          refine bodyPost_ret (results_pl2 (v := .bool false) rfl rfl (hx0.out.set p0) rfl) rfl ?_
          exact ⟨by rw [hl.out, parse_none (hno.out)]; rfl, hkr.out.trans (kept_set _ _ _ _) (fun x hx => .inr (by have := hg.out; simp at hx; omega))⟩
      · have e58 : ((c : Int) == 58) = false := by simp; omega
        have f0 := hx0.out.f0
        have f1 := hx0.out.f1
        have d0 := hx0.out.c0
        have d1 := hx0.out.c1
        have n0 := hx1.out.c0
        have n1 := hx1.out.c1
        have m0 := hx1.out.f0
        have m1 := hx1.out.f1
        by_cases hlo : c < 48
        · have hloi : (c : Int) < 48 := by omega
          have hno := hide (hst.out (by rw [hnx.out]; exact stp_bad (by rw [hcu.out]; exact h58) (.inl (by rw [hcu.out]; exact hlo))))
          go_wp2_with fail
          refine bodyPost_ret (results_pl2 (v := .bool false) rfl rfl (hx0.out.set p0) rfl) rfl ?_
          exact ⟨by rw [hl.out, parse_none (hno.out)]; rfl, hkr.out.trans (kept_set _ _ _ _) (fun x hx => .inr (by have := hg.out; simp at hx; omega))⟩
        · have hloi : ¬ (c : Int) < 48 := by omega
          by_cases hhi : 57 < c
          · have hhii : 57 < (c : Int) := by omega
            have hno := hide (hst.out (by rw [hnx.out]; exact stp_bad (by rw [hcu.out]; exact h58) (.inr (.inl (by rw [hcu.out]; exact hhi)))))
            go_wp2_with fail
            refine bodyPost_ret (results_pl2 (v := .bool false) rfl rfl (hx0.out.set p0) rfl) rfl ?_
            exact ⟨by rw [hl.out, parse_none (hno.out)]; rfl, hkr.out.trans (kept_set _ _ _ _) (fun x hx => .inr (by have := hg.out; simp at hx; omega))⟩
          · have hhii : ¬ 57 < (c : Int) := by omega
            by_cases hq : q = 0
            · subst hq
              have hq : True := trivial
              by_cases hbig : 1099511627776 < a
              · have eb : decide ((1099511627776 : Int) < a) = true := decide_eq_true hbig
                have hno := hide (hst.out (by rw [hnx.out]; exact stp_bad (by rw [hcu.out]; exact h58) (.inr (.inr hbig))))
                go_wp2_with fail
                refine bodyPost_ret (results_pl2 (v := .bool false) rfl rfl (hx0.out.set p0) rfl) rfl ?_
                exact ⟨by rw [hl.out, parse_none (hno.out)]; rfl, hkr.out.trans (kept_set _ _ _ _) (fun x hx => .inr (by have := hg.out; simp at hx; omega))⟩
              · have eb : decide ((1099511627776 : Int) < a) = false := decide_eq_false hbig
                have hs1 := hide (hnx.out.trans (stp_0 (by rw [hcu.out]; exact h58) (by rw [hcu.out]; omega)))
                have hb1 : 0 ≤ a := by have := hbd.out; simp only at this; omega
                have g1 : IntKind.i64.wrap (10 * a) = 10 * a := IntWalk.i64_in _ (by omega)
                have g2 : IntKind.u8.wrap ((c : Int) - 48) = (c : Int) - 48 := by rw [IntKind.wrap_u8]; omega
                have g3 : IntKind.i64.wrap ((c : Int) - 48) = (c : Int) - 48 := IntWalk.i64_in _ (by omega)
                have g4 : IntKind.i64.wrap (10 * a + ((c : Int) - 48)) = 10 * a + ((c : Int) - 48) := IntWalk.i64_in _ (by omega)
                go_upto_region 12 with fail
                go_region
                go_wp2_with fail
                go_roundg (s.size - (i + 1))
                case measure => omega
                case rel =>
                  refine ⟨i + 1, 0, 10 * a + ((c : Int) - 48), b, rfl, by push_cast; rfl, by omega, Nat.le_refl _, hide (hs1.out.trans (by rw [hcu.out]; congr 2; omega)), hide ((hx1.out.s0 _).kept (Kept.refl [] _).drew (by simp)), hide (hx0.out.kept (((Kept.refl [g + 1] wr).setCell (.inl (by simp)) _).drew) (by simp)), hide (hkr.out.trans (((Kept.refl [g + 1] wr).setCell (.inl (by simp)) _).drew) (fun x hx => .inr (by have := hg.out; simp at hx; omega)))⟩
            · obtain rfl : q = 1 := by have := hbd.out.1; simp only at this; omega
              by_cases hbig : 1099511627776 < b
              · have eb : decide ((1099511627776 : Int) < b) = true := decide_eq_true hbig
                have hno := hide (hst.out (by rw [hnx.out]; exact stp_bad (by rw [hcu.out]; exact h58) (.inr (.inr hbig))))
                go_wp2_with fail
                refine bodyPost_ret (results_pl2 (v := .bool false) rfl rfl (hx0.out.set p0) rfl) rfl ?_
                exact ⟨by rw [hl.out, parse_none (hno.out)]; rfl, hkr.out.trans (kept_set _ _ _ _) (fun x hx => .inr (by have := hg.out; simp at hx; omega))⟩
              · have eb : decide ((1099511627776 : Int) < b) = false := decide_eq_false hbig
                have hs1 := hide (hnx.out.trans (stp_1 (by rw [hcu.out]; exact h58) (by rw [hcu.out]; omega)))
                have hb1 : 0 ≤ b := by have := hbd.out; simp only at this; omega
                have g1 : IntKind.i64.wrap (10 * b) = 10 * b := IntWalk.i64_in _ (by omega)
                have g2 : IntKind.u8.wrap ((c : Int) - 48) = (c : Int) - 48 := by rw [IntKind.wrap_u8]; omega
                have g3 : IntKind.i64.wrap ((c : Int) - 48) = (c : Int) - 48 := IntWalk.i64_in _ (by omega)
                have g4 : IntKind.i64.wrap (10 * b + ((c : Int) - 48)) = 10 * b + ((c : Int) - 48) := IntWalk.i64_in _ (by omega)
                go_upto_region 12 with fail
                go_region
                go_wp2_with fail
                go_roundg (s.size - (i + 1))
                case measure => omega
                case rel =>
                  refine ⟨i + 1, 1, a, 10 * b + ((c : Int) - 48), rfl, by push_cast; rfl, by omega, Nat.le_refl _, hide (hs1.out.trans (by rw [hcu.out]; congr 2; omega)), hide ((hx1.out.s1 _).kept (Kept.refl [] _).drew (by simp)), hide (hx0.out.kept (((Kept.refl [g + 1] wr).setCell (.inl (by simp)) _).drew) (by simp)), hide (hkr.out.trans (((Kept.refl [g + 1] wr).setCell (.inl (by simp)) _).drew) (fun x hx => .inr (by have := hg.out; simp at hx; omega)))⟩
    · obtain rfl : i = s.size := by omega
      have hT := hsc.out
      rw [List.take_of_length_le (by rw [hll.out]; exact Nat.le_refl _)] at hT
      have hT := hide hT
      have hps := hide (parse_some hT.out)
      have hV := hide (fun w => rValid_any ⟨a, b⟩ w)
      have hTx := hide (fun h w => rText_any ⟨a, b⟩ h w)
      have n0 := hx1.out.c0
      have n1 := hx1.out.c1
      clear hsc hT hbd
      go_wp2_with fail
      refine (hV.out _).mono ?_
      rintro e w1 ⟨rfl, j1⟩
      have hp := (PlB.new wr ⟨a, b⟩).kept j1 (by simp)
      have hz := hide (hx0.out.kept (((Kept.refl [] wr).alloc _).trans j1 (by simp)) (by simp))
      have k1 := hide (hkr.out.trans (((Kept.refl [] wr).alloc _).trans j1 (by simp)) (by simp))
      clear n0 n1 hx1 hx0 hkr j1
      have b0 := hp.c0
      have b1 := hp.c1
      simp only at b0 b1
      have hlt := hp.lt
      generalize wr.heap.size = m at *
      cases hv : vP ⟨a, b⟩ with
      | false =>
        have f0 := hz.out.f0
        have f1 := hz.out.f1
        have d0 := hz.out.c0
        have d1 := hz.out.c1
        have hv := hide hv
        go_wp2_with fail
        refine bodyPost_ret (results_pl2 (v := .bool false) rfl rfl (hz.out.set p0) rfl) rfl ?_
        exact ⟨by rw [hl.out, hps.out, if_neg (fun h => by rw [hv.out] at h; exact absurd h.1 (by decide))]; rfl, k1.out.trans (kept_set _ _ _ _) (fun x hx => .inr (by have := hg.out; simp at hx; omega))⟩
      | true =>
        have hTt := hide (hTx.out hv)
        have hv := hide hv
        clear hTx
        obtain ⟨X, hX⟩ : ∃ X, textL ⟨a, b⟩ = X := ⟨_, rfl⟩
        rw [hX] at hTt hps
        replace hX := hide hX
        go_wp2_with fail
        refine (hTt.out _).mono ?_
        rintro e w2 ⟨rfl, j2⟩
        have hp2 := hide (hp.kept j2 (by simp))
        have hz2 := hide (hz.out.kept j2 (by simp))
        have k2 := hide (k1.out.trans j2 (by simp))
        clear b0 b1 hz k1 j2 hp hlt
        have b0 := hp2.out.c0
        have b1 := hp2.out.c1
        simp only at b0 b1
        have f0 := hz2.out.f0
        have f1 := hz2.out.f1
        have d0 := hz2.out.c0
        have d1 := hz2.out.c1
        by_cases hXs : (⟨X.toArray⟩ : ByteArray) = s
        · have hXl := hide ((ba_eq X s).1 hXs)
          have hXb : (X == s.toList) = true := by rw [ByteArray.toList_eq, ← hXl.out]; simp
          replace hXs := hide hXs
          go_wp2_with fail
          refine bodyPost_ret (results_pl2 (v := .bool true) rfl rfl (hz2.out.set ⟨a, b⟩) rfl) rfl ?_
          exact ⟨by rw [hl.out, hps.out, if_pos ⟨hv.out, by rw [hXl.out, hl.out]⟩]; rfl, k2.out.trans (kept_set _ _ _ _) (fun x hx => .inr (by have := hg.out; simp at hx; omega))⟩
        · have hX2 := ba_beq X s hXs
          have hXs := hide hXs
          go_wp2_with fail
          refine bodyPost_ret (results_pl2 (v := .bool false) rfl rfl (hz2.out.set p0) rfl) rfl ?_
          exact ⟨by rw [hl.out, hps.out, if_neg (fun h => hXs.out ((ba_eq X s).2 (by rw [hl.out]; exact h.2)))]; rfl, k2.out.trans (kept_set _ _ _ _) (fun x hx => .inr (by have := hg.out; simp at hx; omega))⟩
end Go.Proofs.YtnkddhmhjnhgcabDoor
