/- The law SheetHolds. -/
import Derived.Test.YtpeedjknjjbabaaDoorShHs
namespace Go.Proofs.YtpeedjknjjbabaaDoor
open Go.RowKit
set_option linter.unusedVariables false
set_option linter.unusedSimpArgs false
set_option maxRecDepth 100000

theorem shareA {F : Option Addr → Nat → Nat → World → Prop} {G : Option Addr → Nat → Nat → World → Prop} {goal : Prop} (k : (∀ a b c W, F a b c W → G a b c W) → goal) (h : ∀ a b c W, F a b c W → G a b c W) : goal := k h
theorem wp_app0 {P : Program} {w : World} {o : Oper} {A : Act} {K : Act → World → Prop} {Q : Exit → Act → World → Prop} {s x : Operand} {base : Nat} {t e : TypeId} {z : Value} {size bytes : Nat} {b : Option Addr} {m d : Nat} {ys : List Value}
    (h : ∀ a' c' w', Own w' base e a' m c' size ys → Kept [] w w' → (∀ g ∈ blk a', w.heap.size ≤ g) → K (A.put o.dst (.slice a' m c')) w')
    (T : ElemT P t e z size bytes) (ho : o.op = .call { callee := .builtin .append, args := #[s, x], argTypes := #[t, t] })
    (hs : A.eval s = .slice none 0 0) (hx : A.eval x = .slice b m d) (hr : Rd w b m size ys) (h1 : ∀ u ∈ ys, u.oneCell' = true)
    (hbytes : m * bytes ≤ 140737488355328) (hbase : base ≤ w.heap.size) : o.wp P A w K Q := by
  refine wp_app (n := 0) (xs := []) (fun a' c' w' q1 q2 q3 => ?_) T ho hs (Own.nil w base e size) hx hr h1 (by rw [Nat.zero_add]; exact hbytes) hbase
  rw [Nat.zero_add, List.nil_append] at q1
  rw [Nat.zero_add]
  exact h a' c' w' q1 q2 (fun g hg => (q3 g hg).elim (fun h0 => by simp [blk] at h0) id)
theorem Hs.pop0 {w0 w : World} {b : Nat} {s s' : Sh} {B : List Nat} {a : Option Addr} {n c : Nat} {vs : List LnA} {ls : List Ln} (h : Hs w0 w b s B a n c vs ls) (h2 : 2 ≤ w0.heap.size) (hs : popS s = (s', noLn, 9)) :
    Calls Tryd.prog 25 #[.pointer (some ⟨b, 0, none⟩)] w fun e w' => ∃ a4 n4 c4, e = .returned (.tuple #[.agg #[.slice a4 n4 c4, .bool false], .int .i64 9]) ∧ ∃ B', Hs w0 w' b s' B' a n c vs ls := by
  refine (h.pop h2 noLn 9 hs).mono ?_
  rintro e w' ⟨a4, n4, c4, he, _, _, _, B', hT, _⟩
  exact ⟨a4, n4, c4, he, B', hT⟩
theorem rune_ok (i : Nat) (h : i < 60) : validL [runeC (1024 + ((i : Nat) : Int))] = true := by
  have h' : ∀ q, q < 60 → validL [runeC (1024 + ((q : Nat) : Int))] = true := by decide +kernel
  exact h' i h
set_option maxHeartbeats 80000000 in
theorem sheetHolds_any (hkn : KnownIs) (k1 : Int) (h1 : 0 ≤ k1 ∧ k1 ≤ 255) (a1 : Option Addr) (N cN : Nat) (zs : List Int) (w : World) (hr : Rd w a1 N 1 (ints .u8 zs)) (hz : ∀ x ∈ zs, 0 ≤ x ∧ x ≤ 255) (ht : Tabs w) :
    Calls Tryd.prog 6 #[.int .u8 k1, .slice a1 N cN] w fun e w' => e = .returned (.bool true) ∧ Kept [] w w' := by
  have hkn0 := hide (fun w1 (hk : Kept [] w w1) => hkn.at (ht.kept hk))
  have hw2 := hide (tabs_lt ht)
  have ht0 := hide ht
  have hr0 := hide hr
  have hz0 := hide hz
  clear ht hr hz
  by_cases hlo : k1 < 1
  · skip
    go_enter Tryd.func6, Tryd.ntmps6
    go_wp2_with fail
    refine (hkn0.out w (Kept.refl [] w)).mono ?_
    rintro e w1 ⟨rfl, hk1⟩
    go_wp2_with fail
    go_ret
    exact ⟨rfl, hk1⟩
  · by_cases hhi : k1 > 12
    · skip
      go_enter Tryd.func6, Tryd.ntmps6
      go_wp2_with fail
      refine (hkn0.out w (Kept.refl [] w)).mono ?_
      rintro e w1 ⟨rfl, hk1⟩
      go_wp2_with fail
      go_ret
      exact ⟨rfl, hk1⟩
    · by_cases hN : (N : Int) > 60
      · skip
        go_enter Tryd.func6, Tryd.ntmps6
        go_wp2_with fail
        refine (hkn0.out w (Kept.refl [] w)).mono ?_
        rintro e w1 ⟨rfl, hk1⟩
        go_wp2_with fail
        go_ret
        exact ⟨rfl, hk1⟩
      · skip
        obtain ⟨P, rfl⟩ : ∃ P : Nat, k1 = P := ⟨k1.toNat, by omega⟩
        have hP12 := hide (show 1 ≤ P ∧ P ≤ 12 by omega)
        have hN60 := hide (show N ≤ 60 by omega)
        have t3 : IntKind.i64.wrap (P : Int) = (P : Int) := by rw [IntKind.wrap_i64]; omega
        have hpp : ∀ (b : Nat) w1, (binOp .eql 25 (.pointer (some ⟨b, 0, none⟩)) (.pointer none)).run Tryd.prog w1 = .ok (.bool false) w1 := fun b w1 => by kernel_rfl
        go_enter Tryd.func6, Tryd.ntmps6
        go_wp2_with fail
        refine (NewS_any (P : Int) w).mono ?_
        rintro e w1 ⟨hk1, hyes, _⟩
        obtain ⟨b, B0, rfl, hpg, hB⟩ := hyes (by omega)
        have hS0 : Hid (Hs w w1 b ⟨P, 0, []⟩ B0 none 0 0 [] []) := hide ⟨ht0.out.kept hk1, hpg, hB, hk1, LnsR.nil _ _, Nat.le_refl _, Nat.zero_le _, by simp [blkN], by simp [blks]⟩
        have hpb := hpp b
        clear hyes hpg hB hpp hk1
        go_wp2_with fail
        go_loopg [7, 8, 9, 10, 11, 12, 13, 14, 41, 42, 43, 44, 45, 46, 47, 48, 49, 50, 51, 52, 53, 54, 55, 56, 57, 58, 59, 60, 61, 62, 63, 64, 65, 66, 67, 68, 69, 70, 71, 72, 73, 74, 75, 76, 77, 78, 79, 80, 81, 82, 83, 84, 85, 86, 87, 88, 89, 90, 91, 92, 93, 94, 95, 96, 97, 98, 99, 100, 101, 102, 103, 104, 105, 106, 107, 108, 109, 110, 111, 112, 113, 114, 115, 116, 117, 118, 119, 120, 121, 122, 123, 124, 125, 126, 127, 128, 129, 130, 131, 132, 133, 134, 135, 136, 137, 138, 139, 140, 141, 142, 143, 144, 145, 146, 147, 148, 149, 150, 151, 152] N (fun kx s7 s8 s9 s10 s11 s12 s13 s14 s41 s42 s43 s44 s45 s46 s47 s48 s49 s50 s51 s52 s53 s54 s55 s56 s57 s58 s59 s60 s61 s62 s63 s64 s65 s66 s67 s68 s69 s70 s71 s72 s73 s74 s75 s76 s77 s78 s79 s80 s81 s82 s83 s84 s85 s86 s87 s88 s89 s90 s91 s92 s93 s94 s95 s96 s97 s98 s99 s100 s101 s102 s103 s104 s105 s106 s107 s108 s109 s110 s111 s112 s113 s114 s115 s116 s117 s118 s119 s120 s121 s122 s123 s124 s125 s126 s127 s128 s129 s130 s131 s132 s133 s134 s135 s136 s137 s138 s139 s140 s141 s142 s143 s144 s145 s146 s147 s148 s149 s150 s151 s152 wr => ∃ (i : Nat) (sh : Sh) (B : List Nat) (a : Option Addr) (n c : Nat) (vs : List LnA), s41 = .int .i64 i ∧ s7 = .slice a n c ∧ i ≤ N ∧ N - i ≤ kx ∧ Hid (Hs w wr b sh B a n c vs sh.ls ∧ sh.places = P))
        case atStart => exact ⟨0, _, _, _, _, _, _, rfl, rfl, Nat.zero_le _, by omega, hide ⟨hS0.out, rfl⟩⟩
        case round =>
          obtain ⟨i, sh, B, a, n, c, vs, rfl, rfl, hi, hg, hrel⟩ := hrel
          have hH := hide hrel.out.1
          have hpl := hide hrel.out.2
          clear hrel
          by_cases hlt : i < N
          · have hzl : zs.length = N := by have := hr0.out.1; rw [ints_len] at this; omega
            have hil : i < zs.length := by omega
            obtain ⟨gb, ob, rfl⟩ : ∃ g o, a1 = some ⟨g, o, none⟩ := by
              rcases hr0.out.2 with h0 | ⟨g, o, h0, _⟩
              · exact absurd (congrArg List.length h0) (by rw [ints_len, hzl]; simp; omega)
              · exact ⟨g, o, h0⟩
            have hb : wr.cell? ⟨gb, ob + i, none⟩ = some (.int .u8 zs[i]) := by
              rcases (hr0.out.kept hH.out.kp (by simp)).2 with h0 | ⟨g, o, h0, hc⟩
              · exact absurd (congrArg List.length h0) (by rw [ints_len, hzl]; simp; omega)
              · injection h0 with h0
                injection h0 with e1 e2 _
                subst e1 e2
                exact Rd.at hc i hil
            have hzx := hz0.out _ (List.getElem_mem hil)
            generalize zs[i] = xz at *
            obtain ⟨X, rfl⟩ : ∃ X : Nat, xz = X := ⟨xz.toNat, by omega⟩
            have hiN : (i : Int) < (N : Int) := by omega
            have t4 : IntKind.i64.wrap ((i : Int) + 1) = (i : Int) + 1 := by rw [IntKind.wrap_i64]; have := hN60.out; omega
            have hrl := hide hH.out.rd.len
            have hok0 := hide (PG.ok _ _ _ _ hH.out.pg)
            have hn12 := hide (show n ≤ 12 by have h1 := hok0.out.1.1; have h2 := hrl.out; have h3 := hpl.out; have h4 := hP12.out; omega)
            replace hzl := hide hzl
            obtain ⟨R0, hR0⟩ : ∃ R0 : Nat, sh.room = R0 := ⟨_, rfl⟩
            obtain ⟨q, hq⟩ : ∃ q : Bool, ((((R0 : Nat) : Int)) == 0) = q := ⟨_, rfl⟩
            obtain ⟨r, hm⟩ : ∃ r : Int, Int.tmod (X : Int) 4 = r := ⟨_, rfl⟩
            have hr4 : 0 ≤ r ∧ r ≤ 3 := by have e : Int.tmod (X : Int) 4 = ((X % 4 : Nat) : Int) := rfl; omega
            have cu : IntKind.u8.wrap r = r := by simp only [IntKind.wrap_u8]; omega
            replace hR0 := hide hR0
            go_wp2_with fail
            refine (hH.out.room (R0 : Int) (by rw [hR0.out])).mono ?_
            rintro e x1 ⟨rfl, hT⟩
            replace hH := hide hT
            clear hT hb
            cases q
            case false =>
              have hrm := hide (show sh.room ≠ 0 by rw [hR0.out]; have h := hq; simp at h; omega)
              by_cases h2 : r = 2
              · subst h2
                obtain ⟨Y, hY⟩ : ∃ Y : Nat, X / 4 = Y := ⟨_, rfl⟩
                have e1 : Int.tdiv (X : Int) 4 = (Y : Int) := by rw [← hY]; rfl
                have e2 : IntKind.u8.wrap (Y : Int) = (Y : Int) := by simp only [IntKind.wrap_u8]; omega
                have e3 : IntKind.i64.wrap (Y : Int) = (Y : Int) := by rw [IntKind.wrap_i64]; omega
                obtain ⟨d, hd⟩ : ∃ d : Nat, Y % 4 = d := ⟨_, rfl⟩
                have e4 : Int.tmod (Y : Int) 4 = (d : Int) := by rw [← hd]; rfl
                by_cases hdn : d ≤ n
                · have hdi : (d : Int) ≤ (n : Int) := by omega
                  have hs : dropS sh (d : Int) = (⟨sh.places, sh.gone + d, sh.ls.drop d⟩, 0) := by unfold dropS; rw [if_neg (by have := hrl.out; omega)]; simp
                  obtain ⟨a2, hcut, hsub, hcutr⟩ := cutb_l a n c d hdn hH.out.nc hH.out.cm
                  replace hsub := hide hsub
                  replace hcutr := hide hcutr
                  replace hs := hide hs
                  go_wp2_with fail
                  refine (hH.out.drop hw2.out (d : Int) 0 hs.out).mono ?_
                  rintro e x2 ⟨rfl, B2, hT, _, _⟩
                  have hT2 := hT.list ⟨hcutr.out _ _ hT.rd.rd, hT.rd.at'.drop d⟩ (Nat.sub_le_sub_right hT.nc d) (by have := hT.cm; omega) (fun y hy => hT.d1 y (hsub.out y hy)) (fun y hy => hT.d2 y (blks_sub (fun v hv => List.mem_of_mem_drop hv) y hy))
                  replace hH := hide hT2
                  clear hT hT2
                  have hok := hide (PG.ok _ _ _ _ hH.out.pg)
                  have hsum := sum_ok hok.out.1
                  have hnl := hide hH.out.rd.len
                  have hbd := hide (fun x (hx : x ∈ ((⟨sh.places, sh.gone + d, sh.ls.drop d⟩ : Sh)).ls) => valid_len (hok.out.1.2 x hx))
                  obtain ⟨R, hR⟩ : ∃ R : Nat, ((⟨sh.places, sh.gone + d, sh.ls.drop d⟩ : Sh)).room = R := ⟨_, rfl⟩
                  obtain ⟨G, hG⟩ : ∃ G : Nat, ((⟨sh.places, sh.gone + d, sh.ls.drop d⟩ : Sh)).gone = G := ⟨_, rfl⟩
                  rw [hnl.out, hR, hG, hpl.out] at hsum
                  have t1 : IntKind.i64.wrap ((((n - d) : Nat) : Int) + (R : Int)) = (((n - d) : Nat) : Int) + (R : Int) := by rw [IntKind.wrap_i64]; have := hP12.out; omega
                  have t2 : IntKind.i64.wrap ((((n - d) : Nat) : Int) + (R : Int) + (G : Int)) = (P : Int) := by rw [IntKind.wrap_i64]; have := hP12.out; omega
                  have hle := hide (show (n - d) ≤ 2000 by have := hP12.out; omega)
                  replace hR := hide hR
                  replace hG := hide hG
                  replace hsum := hide hsum
                  go_wp2_with fail
                  refine (hH.out.len (((n - d) : Nat) : Int) (by rw [hnl.out])).mono ?_
                  rintro e z0 ⟨rfl, hT⟩
                  replace hH := hide hT
                  clear hT
                  go_wp2_with fail
                  refine (hH.out.room (R : Int) (by rw [hR.out])).mono ?_
                  rintro e z0 ⟨rfl, hT⟩
                  replace hH := hide hT
                  clear hT
                  go_wp2_with fail
                  refine (hH.out.gone (G : Int) (by rw [hG.out])).mono ?_
                  rintro e z0 ⟨rfl, hT⟩
                  replace hH := hide hT
                  clear hT
                  go_wp2_with fail
                  refine (hH.out.cap (P : Int) (by rw [hpl.out])).mono ?_
                  rintro e z0 ⟨rfl, hT⟩
                  replace hH := hide hT
                  clear hT
                  go_wp2_with fail
                  refine (hH.out.cap (P : Int) (by rw [hpl.out])).mono ?_
                  rintro e z0 ⟨rfl, hT⟩
                  replace hH := hide hT
                  clear hT
                  go_wp2_with fail
                  refine (hH.out.lines ((n - d)) hnl.out).mono ?_
                  rintro e z1 ⟨gL, us, rfl, hfr, hT⟩
                  replace hH := hide hT
                  clear hT
                  have hfr := hide hfr
                  go_wp2_with fail
                  refine (all_t (some ⟨gL, 0, none⟩) ((n - d)) ((n - d)) us _ _ _ _ z1 ⟨hfr.out.mid.rd, hfr.out.lns⟩ hH.out.rd hbd.out hle.out).mono ?_
                  rintro e z2 ⟨rfl, hj⟩
                  have hT := hH.out.keep hj
                  go_wp2_with fail
                  go_roundg (N - (i + 1))
                  case measure => omega
                  case rel => exact ⟨i + 1, _, _, _, _, _, _, by push_cast; rfl, rfl, by omega, Nat.le_refl _, hide ⟨hT, hpl.out⟩⟩
                · have hdi : ¬ ((d : Int) ≤ (n : Int)) := by omega
                  have hs : dropS sh (d : Int) = (sh, 3) := by unfold dropS; rw [if_pos (by have := hrl.out; omega)]
                  replace hs := hide hs
                  go_wp2_with fail
                  refine (hH.out.drop hw2.out (d : Int) 3 hs.out).mono ?_
                  rintro e x2 ⟨rfl, B2, hT, _, _⟩
                  replace hH := hide hT
                  clear hT
                  have hok := hide (PG.ok _ _ _ _ hH.out.pg)
                  have hsum := sum_ok hok.out.1
                  have hnl := hide hH.out.rd.len
                  have hbd := hide (fun x (hx : x ∈ (sh).ls) => valid_len (hok.out.1.2 x hx))
                  obtain ⟨R, hR⟩ : ∃ R : Nat, (sh).room = R := ⟨_, rfl⟩
                  obtain ⟨G, hG⟩ : ∃ G : Nat, (sh).gone = G := ⟨_, rfl⟩
                  rw [hnl.out, hR, hG, hpl.out] at hsum
                  have t1 : IntKind.i64.wrap (((n : Nat) : Int) + (R : Int)) = ((n : Nat) : Int) + (R : Int) := by rw [IntKind.wrap_i64]; have := hP12.out; omega
                  have t2 : IntKind.i64.wrap (((n : Nat) : Int) + (R : Int) + (G : Int)) = (P : Int) := by rw [IntKind.wrap_i64]; have := hP12.out; omega
                  have hle := hide (show n ≤ 2000 by have := hP12.out; omega)
                  replace hR := hide hR
                  replace hG := hide hG
                  replace hsum := hide hsum
                  go_wp2_with fail
                  refine (hH.out.len ((n : Nat) : Int) (by rw [hnl.out])).mono ?_
                  rintro e z0 ⟨rfl, hT⟩
                  replace hH := hide hT
                  clear hT
                  go_wp2_with fail
                  refine (hH.out.room (R : Int) (by rw [hR.out])).mono ?_
                  rintro e z0 ⟨rfl, hT⟩
                  replace hH := hide hT
                  clear hT
                  go_wp2_with fail
                  refine (hH.out.gone (G : Int) (by rw [hG.out])).mono ?_
                  rintro e z0 ⟨rfl, hT⟩
                  replace hH := hide hT
                  clear hT
                  go_wp2_with fail
                  refine (hH.out.cap (P : Int) (by rw [hpl.out])).mono ?_
                  rintro e z0 ⟨rfl, hT⟩
                  replace hH := hide hT
                  clear hT
                  go_wp2_with fail
                  refine (hH.out.cap (P : Int) (by rw [hpl.out])).mono ?_
                  rintro e z0 ⟨rfl, hT⟩
                  replace hH := hide hT
                  clear hT
                  go_wp2_with fail
                  refine (hH.out.lines (n) hnl.out).mono ?_
                  rintro e z1 ⟨gL, us, rfl, hfr, hT⟩
                  replace hH := hide hT
                  clear hT
                  have hfr := hide hfr
                  go_wp2_with fail
                  refine (all_t (some ⟨gL, 0, none⟩) (n) (n) us _ _ _ _ z1 ⟨hfr.out.mid.rd, hfr.out.lns⟩ hH.out.rd hbd.out hle.out).mono ?_
                  rintro e z2 ⟨rfl, hj⟩
                  have hT := hH.out.keep hj
                  go_wp2_with fail
                  go_roundg (N - (i + 1))
                  case measure => omega
                  case rel => exact ⟨i + 1, _, _, _, _, _, _, by push_cast; rfl, rfl, by omega, Nat.le_refl _, hide ⟨hT, hpl.out⟩⟩
              · by_cases h3 : r = 3
                · subst h3
                  by_cases hn0 : n = 0
                  · have hnz : ¬ ((n : Int) > 0) := by omega
                    have hnz2 : ¬ (0 < n) := by omega
                    have hnz3 : ¬ ((0 : Int) < (n : Int)) := by omega
                    have hs : popS sh = (sh, noLn, 9) := by unfold popS; rw [if_pos (List.eq_nil_of_length_eq_zero (by rw [hrl.out]; exact hn0))]
                    replace hs := hide hs
                    replace hn0 := hide hn0
                    go_wp2_with fail
                    refine (hH.out.pop0 hw2.out hs.out).mono ?_
                    rintro e x2 ⟨a4, n4, c4, rfl, B2, hT⟩
                    go_upto_region 25 with (refine wpList_store_lin rfl rfl rfl x2.heap.size rfl (LinIn.new x2 none 0 0 false) a4 n4 c4 false rfl ?_; intro x3 hb3 hj3)
                    have hj23 : Kept [] x2 x3 := ((Kept.refl [] x2).alloc (.cells #[.slice none 0 0, .bool false] 35)).trans hj3 (by simp)
                    replace hH := hide (hT.keep hj23)
                    clear hT hb3 hj3 hj23
                    have hok := hide (PG.ok _ _ _ _ hH.out.pg)
                    have hsum := sum_ok hok.out.1
                    have hnl := hide hH.out.rd.len
                    have hbd := hide (fun x (hx : x ∈ (sh).ls) => valid_len (hok.out.1.2 x hx))
                    obtain ⟨R, hR⟩ : ∃ R : Nat, (sh).room = R := ⟨_, rfl⟩
                    obtain ⟨G, hG⟩ : ∃ G : Nat, (sh).gone = G := ⟨_, rfl⟩
                    rw [hnl.out, hR, hG, hpl.out] at hsum
                    have t1 : IntKind.i64.wrap (((n : Nat) : Int) + (R : Int)) = ((n : Nat) : Int) + (R : Int) := by rw [IntKind.wrap_i64]; have := hP12.out; omega
                    have t2 : IntKind.i64.wrap (((n : Nat) : Int) + (R : Int) + (G : Int)) = (P : Int) := by rw [IntKind.wrap_i64]; have := hP12.out; omega
                    have hle := hide (show n ≤ 2000 by have := hP12.out; omega)
                    replace hR := hide hR
                    replace hG := hide hG
                    replace hsum := hide hsum
                    go_wp2_with fail
                    refine (hH.out.len ((n : Nat) : Int) (by rw [hnl.out])).mono ?_
                    rintro e z0 ⟨rfl, hT⟩
                    replace hH := hide hT
                    clear hT
                    go_wp2_with fail
                    refine (hH.out.room (R : Int) (by rw [hR.out])).mono ?_
                    rintro e z0 ⟨rfl, hT⟩
                    replace hH := hide hT
                    clear hT
                    go_wp2_with fail
                    refine (hH.out.gone (G : Int) (by rw [hG.out])).mono ?_
                    rintro e z0 ⟨rfl, hT⟩
                    replace hH := hide hT
                    clear hT
                    go_wp2_with fail
                    refine (hH.out.cap (P : Int) (by rw [hpl.out])).mono ?_
                    rintro e z0 ⟨rfl, hT⟩
                    replace hH := hide hT
                    clear hT
                    go_wp2_with fail
                    refine (hH.out.cap (P : Int) (by rw [hpl.out])).mono ?_
                    rintro e z0 ⟨rfl, hT⟩
                    replace hH := hide hT
                    clear hT
                    go_wp2_with fail
                    refine (hH.out.lines (n) hnl.out).mono ?_
                    rintro e z1 ⟨gL, us, rfl, hfr, hT⟩
                    replace hH := hide hT
                    clear hT
                    have hfr := hide hfr
                    go_wp2_with fail
                    refine (all_t (some ⟨gL, 0, none⟩) (n) (n) us _ _ _ _ z1 ⟨hfr.out.mid.rd, hfr.out.lns⟩ hH.out.rd hbd.out hle.out).mono ?_
                    rintro e z2 ⟨rfl, hj⟩
                    have hT := hH.out.keep hj
                    go_wp2_with fail
                    go_roundg (N - (i + 1))
                    case measure => omega
                    case rel => exact ⟨i + 1, _, _, _, _, _, _, by push_cast; rfl, rfl, by omega, Nat.le_refl _, hide ⟨hT, hpl.out⟩⟩
                  · have hne : sh.ls ≠ [] := fun h0 => by have := hrl.out; rw [h0] at this; simp at this; omega
                    have hdl : n - 1 < sh.ls.length := by have := hrl.out; omega
                    have hdv : n - 1 < vs.length := by have := hH.out.rd.vlen; omega
                    have hlast : sh.ls.getLastD noLn = sh.ls[n - 1] := by rw [List.getLastD_eq_getLast?, List.getLast?_eq_getElem?, hrl.out, List.getElem?_eq_getElem hdl, Option.getD_some]
                    have hs : popS sh = (⟨sh.places, sh.gone, sh.ls.dropLast⟩, sh.ls[n - 1], 0) := by unfold popS; rw [if_neg hne, hlast]
                    have hld : Hid (sh.ls.dropLast = sh.ls.take (n - 1)) := hide (by rw [List.dropLast_eq_take, hrl.out])
                    obtain ⟨g, o, rfl⟩ := hH.out.rd.rd.rowAddr rowLn (by omega)
                    obtain ⟨a2, hcut, hsub, hcutr⟩ := cutb_h (some ⟨g, o, none⟩) n c (n - 1) (by omega) hH.out.nc hH.out.cm
                    have hrow := hide (fun w1 (hr : LnsR w1 (some ⟨g, o, none⟩) n vs sh.ls) => hr.rd.row rowLn (n - 1) hdv)
                    have hat0 := hide (fun w1 (hr : LnsR w1 (some ⟨g, o, none⟩) n vs sh.ls) => hr.at'.get (n - 1) hdv hdl)
                    have hly := hide (valid_len (hok0.out.1.2 _ (List.getElem_mem hdl)))
                    have hw1 : IntKind.i64.wrap ((n : Int) - 1) = ((n - 1 : Nat) : Int) := by rw [IntKind.wrap_i64]; have := hn12.out; omega
                    have hdi : ((n - 1 : Nat) : Int) < (n : Int) := by omega
                    have hnp : (n : Int) > 0 := by omega
                    have hnp2 : 0 < n := by omega
                    have hnp3 : (0 : Int) < (n : Int) := by omega
                    have hm1 := hide (show n - 1 ≤ c by have := hH.out.nc; omega)
                    replace hsub := hide hsub
                    replace hcutr := hide hcutr
                    replace hs := hide hs
                    clear hlast hne
                    generalize sh.ls[n - 1] = y at *
                    generalize vs[n - 1] = v at *
                    replace hdl := hide hdl
                    replace hdv := hide hdv
                    obtain ⟨m, hmn⟩ : ∃ m : Nat, n - 1 = m := ⟨_, rfl⟩
                    rw [hmn] at hld hcut hsub hcutr hrow hw1 hdi hm1
                    replace hmn := hide hmn
                    go_wp2_with fail
                    refine (hH.out.pop hw2.out y 0 hs.out).mono ?_
                    rintro e x2 ⟨a4, n4, c4, rfl, hat, hown, _, B2, hT, _, _, _⟩
                    go_upto_region 25 with (refine wpList_store_lin rfl rfl rfl x2.heap.size rfl (LinIn.new x2 none 0 0 false) a4 n4 c4 y.s rfl ?_; intro x3 hb3 hj3)
                    have hj23 : Kept [] x2 x3 := ((Kept.refl [] x2).alloc (.cells #[.slice none 0 0, .bool false] 35)).trans hj3 (by simp)
                    replace hH := hide (hT.keep hj23)
                    have hat3 := hide (hat.kept hj23 (by simp))
                    have hb3 := hide hb3
                    clear hT hat hown hj3 hj23
                    go_upto_region 28 with fail
                    have hF : ∀ {w1 : World}, Kept [] x3 w1 → LinIn w1 x2.heap.size a4 n4 c4 y.s ∧ w1.rangeAt g (o + m * 2) (lnV v) := fun hk => ⟨hb3.out.kept hk (by simp), hrow.out _ (hH.out.keep hk).rd⟩
                    have hSm := hide (fun w1 (hk : Kept [] x3 w1) => rSame6_any a4 n4 c4 y.s y.l v.a v.n v.c v.s y.l w1 (hat3.out.rd.kept hk (by simp)) (hat0.out w1 (hH.out.keep hk).rd).rd (by have h1 := hat3.out.len; have h2 := hly.out; simp only at h1; omega))
                    rw [show decide (y.s = v.s ∧ y.l = y.l) = true by rw [(hat0.out x3 hH.out.rd).s]; simp] at hSm
                    refine wp_region_held_drew (S := (fun w1 => LinIn w1 x2.heap.size a4 n4 c4 y.s ∧ w1.rangeAt g (o + m * 2) (lnV v))) (by kernel_rfl) ?_ (fun hHeld => ?_)
                    · (try dsimp only); (first | exact hF k4 | exact hF (Kept.refl [] x3).drew)
                    refine wpAnyH_take (i := 0) (v := (.agg #[.slice a4 n4 c4, .bool y.s])) rfl (by kernel_rfl) (by kernel_rfl) (by kernel_rfl) (fun _ _ _ h => h) (yieldsIf_load_mid (by rfl) 35 _ rfl x2.heap.size 0 rfl (linL a4 n4 c4 y.s) _ (fun _ h => h.1.range) Tryd.underlying35 rfl (by kernel_rfl)) (by assumption) ?_
                    try simp only [Act.put, List.getElem_toArray, List.getElem_cons_zero, List.setIfInBounds_toArray, List.set_cons_zero, List.set_cons_succ]
                    refine wpAnyH_take (i := 1) (v := ?_) rfl (by kernel_rfl) (by kernel_rfl) (by kernel_rfl) (fun _ _ _ h => h) (Or.inl ⟨by rfl, ?_⟩) (by assumption) ?_
                    rotate_left
                    · (intro wq hSw; (try dsimp only at hSw); go_simp; try with_reducible rfl)
                    try simp only [Act.put, List.getElem_toArray, List.getElem_cons_succ, List.getElem_cons_zero, List.setIfInBounds_toArray, List.set_cons_zero, List.set_cons_succ]
                    refine wpAnyH_take (i := 2) (v := ?_) rfl (by kernel_rfl) (by kernel_rfl) (by kernel_rfl) (fun _ _ _ h => h) (Or.inl ⟨by rfl, ?_⟩) (by assumption) ?_
                    rotate_left
                    · (intro wq hSw; (try dsimp only at hSw); go_simp; try with_reducible rfl)
                    try simp only [Act.put, List.getElem_toArray, List.getElem_cons_succ, List.getElem_cons_zero, List.setIfInBounds_toArray, List.set_cons_zero, List.set_cons_succ]
                    refine wpAnyH_take (i := 3) (v := ?_) rfl (by kernel_rfl) (by kernel_rfl) (by kernel_rfl) (fun _ _ _ h => h) (Or.inl ⟨by rfl, ?_⟩) (by assumption) ?_
                    rotate_left
                    · (intro wq hSw; (try dsimp only at hSw); go_simp; try with_reducible rfl)
                    try simp only [Act.put, List.getElem_toArray, List.getElem_cons_succ, List.getElem_cons_zero, List.setIfInBounds_toArray, List.set_cons_zero, List.set_cons_succ]
                    refine wpAnyH_take (i := 4) (v := ?_) rfl (by kernel_rfl) (by kernel_rfl) (by kernel_rfl) (fun _ _ _ h => h) (Or.inl ⟨by rfl, ?_⟩) (by assumption) ?_
                    rotate_left
                    · (intro wq hSw; (try dsimp only at hSw); go_simp; try with_reducible rfl)
                    try simp only [Act.put, List.getElem_toArray, List.getElem_cons_succ, List.getElem_cons_zero, List.setIfInBounds_toArray, List.set_cons_zero, List.set_cons_succ]
                    refine wpAnyH_take (i := 5) (v := ?_) rfl (by kernel_rfl) (by kernel_rfl) (by kernel_rfl) (fun _ _ _ h => h) (Or.inl ⟨by rfl, ?_⟩) (by assumption) ?_
                    rotate_left
                    · (intro wq hSw; (try dsimp only at hSw); go_simp; try with_reducible rfl)
                    try simp only [Act.put, List.getElem_toArray, List.getElem_cons_succ, List.getElem_cons_zero, List.setIfInBounds_toArray, List.set_cons_zero, List.set_cons_succ]
                    refine wpAnyH_take (i := 6) (v := (.agg #[.slice v.a v.n v.c, .bool v.s])) rfl (by kernel_rfl) (by kernel_rfl) (by kernel_rfl) (fun _ _ _ h => h) (yieldsIf_load_mid (by rfl) 35 _ rfl g (o + m * 2) rfl (lnV v) _ (fun _ h => h.2) Tryd.underlying35 rfl (by kernel_rfl)) (by assumption) ?_
                    try simp only [Act.put, List.getElem_toArray, List.getElem_cons_succ, List.getElem_cons_zero, List.setIfInBounds_toArray, List.set_cons_zero, List.set_cons_succ]
                    refine wpAnyH_ready (rs := [7]) (by kernel_rfl) (by simp) ?_
                    refine AllReadyH.cons rfl (fun K hK => ?_) AllReadyH.nil
                    go_simp
                    refine (hSm.out _ (Kept.refl [] x3).drew).mono ?_; rintro e x4 ⟨rfl, hj4⟩; have k4 : Kept [] x3 x4 := (Kept.refl [] x3).drew.trans hj4 (by simp)
                    try go_wp2_with fail
                    refine hK.out _ _ ?_ (fun hHeld => ?_)
                    · (try dsimp only); (first | exact hF k4 | exact hF (Kept.refl [] x3).drew)
                    clear hK K
                    try simp only [Act.put, List.getElem_toArray, List.getElem_cons_succ, List.getElem_cons_zero, List.setIfInBounds_toArray, List.set_cons_zero, List.set_cons_succ]
                    refine wpAnyH_take (i := 8) (v := ?_) rfl (by kernel_rfl) (by kernel_rfl) (by kernel_rfl) (fun _ _ _ h => h) (Or.inl ⟨by rfl, ?_⟩) (by assumption) ?_
                    rotate_left
                    · (intro wq hSw; (try dsimp only at hSw); go_simp; try with_reducible rfl)
                    try simp only [Act.put, List.getElem_toArray, List.getElem_cons_succ, List.getElem_cons_zero, List.setIfInBounds_toArray, List.set_cons_zero, List.set_cons_succ]
                    refine wpAnyH_done (by kernel_rfl) ?_ _
                    have hT := hH.out.keep k4
                    have hT2 := hT.list (s := ⟨sh.places, sh.gone, sh.ls.dropLast⟩) (ls' := sh.ls.dropLast) ⟨hcutr.out _ _ hT.rd.rd, by rw [hld.out]; exact hT.rd.at'.take m⟩ hm1.out hT.cm (fun y hy => hT.d1 y (hsub.out y hy)) (fun y hy => hT.d2 y (blks_sub (fun v hv => List.mem_of_mem_take hv) y hy))
                    replace hH := hide hT2
                    clear hT hT2 hSm hrow hat0 hat3 hb3 hF k4 hj4
                    have hok := hide (PG.ok _ _ _ _ hH.out.pg)
                    have hsum := sum_ok hok.out.1
                    have hnl := hide hH.out.rd.len
                    have hbd := hide (fun x (hx : x ∈ ((⟨sh.places, sh.gone, sh.ls.dropLast⟩ : Sh)).ls) => valid_len (hok.out.1.2 x hx))
                    obtain ⟨R, hR⟩ : ∃ R : Nat, ((⟨sh.places, sh.gone, sh.ls.dropLast⟩ : Sh)).room = R := ⟨_, rfl⟩
                    obtain ⟨G, hG⟩ : ∃ G : Nat, ((⟨sh.places, sh.gone, sh.ls.dropLast⟩ : Sh)).gone = G := ⟨_, rfl⟩
                    rw [hnl.out, hR, hG, hpl.out] at hsum
                    have t1 : IntKind.i64.wrap (((m : Nat) : Int) + (R : Int)) = ((m : Nat) : Int) + (R : Int) := by rw [IntKind.wrap_i64]; have := hP12.out; omega
                    have t2 : IntKind.i64.wrap (((m : Nat) : Int) + (R : Int) + (G : Int)) = (P : Int) := by rw [IntKind.wrap_i64]; have := hP12.out; omega
                    have hle := hide (show m ≤ 2000 by have := hP12.out; omega)
                    replace hR := hide hR
                    replace hG := hide hG
                    replace hsum := hide hsum
                    go_wp2_with fail
                    refine (hH.out.len ((m : Nat) : Int) (by rw [hnl.out])).mono ?_
                    rintro e z0 ⟨rfl, hT⟩
                    replace hH := hide hT
                    clear hT
                    go_wp2_with fail
                    refine (hH.out.room (R : Int) (by rw [hR.out])).mono ?_
                    rintro e z0 ⟨rfl, hT⟩
                    replace hH := hide hT
                    clear hT
                    go_wp2_with fail
                    refine (hH.out.gone (G : Int) (by rw [hG.out])).mono ?_
                    rintro e z0 ⟨rfl, hT⟩
                    replace hH := hide hT
                    clear hT
                    go_wp2_with fail
                    refine (hH.out.cap (P : Int) (by rw [hpl.out])).mono ?_
                    rintro e z0 ⟨rfl, hT⟩
                    replace hH := hide hT
                    clear hT
                    go_wp2_with fail
                    refine (hH.out.cap (P : Int) (by rw [hpl.out])).mono ?_
                    rintro e z0 ⟨rfl, hT⟩
                    replace hH := hide hT
                    clear hT
                    go_wp2_with fail
                    refine (hH.out.lines (m) hnl.out).mono ?_
                    rintro e z1 ⟨gL, us, rfl, hfr, hT⟩
                    replace hH := hide hT
                    clear hT
                    have hfr := hide hfr
                    go_wp2_with fail
                    refine (all_t (some ⟨gL, 0, none⟩) (m) (m) us _ _ _ _ z1 ⟨hfr.out.mid.rd, hfr.out.lns⟩ hH.out.rd hbd.out hle.out).mono ?_
                    rintro e z2 ⟨rfl, hj⟩
                    have hT := hH.out.keep hj
                    go_wp2_with fail
                    go_roundg (N - (i + 1))
                    case measure => omega
                    case rel => exact ⟨i + 1, _, _, _, _, _, _, by push_cast; rfl, rfl, by omega, Nat.le_refl _, hide ⟨hT, hpl.out⟩⟩
                · have g2 : (r == 2) = false := by simp [h2]
                  have g3 : (r == 3) = false := by simp [h3]
                  have f1 : IntKind.i64.wrap (1024 + (i : Int)) = 1024 + (i : Int) := by rw [IntKind.wrap_i64]; have := hN60.out; omega
                  have f2 : IntKind.i32.wrap (1024 + (i : Int)) = 1024 + (i : Int) := by rw [IntKind.wrap_i32]; have := hN60.out; omega
                  have hvx : validL [runeC (1024 + (i : Int))] = true := rune_ok i (by have := hN60.out; omega)
                  have hs : pushS sh ⟨[runeC (1024 + (i : Int))], false⟩ = ((⟨sh.places, sh.gone, sh.ls ++ [⟨[runeC (1024 + (i : Int))], false⟩]⟩ : Sh), 0) := by unfold pushS; rw [if_neg (by simp [hvx]), if_neg (hrm.out)]
                  replace hs := hide hs
                  replace hvx := hide hvx
                  go_wp2_with fail
                  refine (text7_any (1024 + (i : Int)) x1).mono ?_
                  rintro e x2 ⟨a5, n5, c5, rfl, ho5, h5a, h5b, hj2⟩
                  have hBlt := hide (PG.lt _ _ _ _ hH.out.pg)
                  replace hH := hide (hH.out.keep hj2)
                  go_upto_region 13 with (refine wpList_store_lin rfl rfl rfl x2.heap.size rfl (LinIn.new x2 none 0 0 false) a5 n5 c5 false rfl ?_; intro x3 hb3 hj3)
                  have hj23 : Kept [] x2 x3 := ((Kept.refl [] x2).alloc (.cells #[.slice none 0 0, .bool false] 35)).trans hj3 (by simp)
                  replace hH := hide (hH.out.keep hj23)
                  have ho5 := hide (ho5.kept hj23 (by simp))
                  have hb3 := hide hb3
                  have hs23 := hide hj23.size
                  clear hj3 hj23
                  obtain ⟨p0, p1⟩ := hb3.out.at
                  go_wp2_with fail
                  refine (hH.out.push hw2.out a5 n5 c5 ⟨[runeC (1024 + (i : Int))], false⟩ ho5.out.rd 0 hs.out).mono ?_
                  rintro e x4 ⟨rfl, B2, hT, hk4, hB2⟩
                  have hbx : x2.heap.size ∉ B := fun hm => by have := hBlt.out _ hm; have := hj2.size; omega
                  have h5B : ∀ y ∈ blk a5, y ∉ B := fun y hy hm => by have := hBlt.out _ hm; have := (ho5.out.ge y hy).1; omega
                  have hb4 := hide (hb3.out.kept hk4 hbx)
                  have ho54 := hide (ho5.out.kept hk4 h5B)
                  have h5B2 := hide (fun y (hy : y ∈ blk a5) (hm : y ∈ B2) => (hB2 y hm).elim (h5B y hy) (fun h => by have := (ho5.out.ge y hy).2; omega) : ∀ y ∈ blk a5, y ∉ B2)
                  replace hH := hide hT
                  clear hT hk4 hB2 hBlt ho5 hb3 p0 p1 hbx h5B
                  have hB2lt := hide (PG.lt _ _ _ _ hH.out.pg)
                  have hn12b := hn12.out
                  go_upto_region 16 with fail
                  have hF : ∀ {w1 : World}, Kept [] x4 w1 → LinIn w1 x2.heap.size a5 n5 c5 false := fun hk => hb4.out.kept hk (by simp)
                  have hRK := hide (fun w1 (hk : Kept [] x4 w1) => (hH.out.keep hk).rd.rd)
                  refine wp_region_held_drew (S := (fun w1 => LinIn w1 x2.heap.size a5 n5 c5 false)) (by kernel_rfl) ?_ (fun hHeld => ?_)
                  · (try dsimp only); (first | exact hF6 | exact hF k8 | exact hF k9 | exact hF (Kept.refl [] x4).drew)
                  refine wpAnyH_take (i := 0) (v := ?_) rfl (by kernel_rfl) (by kernel_rfl) (by kernel_rfl) (fun _ _ _ h => h) (Or.inl ⟨by rfl, ?_⟩) (by assumption) ?_
                  rotate_left
                  · (intro wq hSw; (try dsimp only at hSw); go_simp; try with_reducible rfl)
                  try simp only [Act.put, List.getElem_toArray, List.getElem_cons_zero, List.setIfInBounds_toArray, List.set_cons_zero, List.set_cons_succ]
                  refine wpAnyH_take (i := 2) (v := (.agg #[.slice a5 n5 c5, .bool false])) rfl (by kernel_rfl) (by kernel_rfl) (by kernel_rfl) (fun _ _ _ h => h) (yieldsIf_load_mid (by rfl) 35 _ rfl x2.heap.size 0 rfl (linL a5 n5 c5 false) _ (fun _ h => h.range) Tryd.underlying35 rfl (by kernel_rfl)) (by assumption) ?_
                  try simp only [Act.put, List.getElem_toArray, List.getElem_cons_succ, List.getElem_cons_zero, List.setIfInBounds_toArray, List.set_cons_zero, List.set_cons_succ]
                  refine' shareA (F := (fun a8 c8 g9 W => LinIn W x2.heap.size a5 n5 c5 false ∧ Kept [] x4 W ∧ Own W x4.heap.size 35 a8 n c8 2 (rowsV lnV vs) ∧ Rd W (some ⟨g9, 0, none⟩) 1 2 (rowsV lnV [⟨a5, n5, c5, false⟩]))) (fun H => ?kS) ?hS
                  case kS =>
                    refine wpAnyH_ready (rs := [1, 3]) (by kernel_rfl) (by simp) ?_
                    refine AllReadyH.cons rfl (fun K hK => ?_) (AllReadyH.cons rfl (fun K hK => ?_) AllReadyH.nil)
                    · rw [if_pos (by rfl)]
                      refine wp_app0 (base := x4.heap.size) ?_ elLine rfl rfl rfl (hRK.out _ (by first | exact k9 | exact (Kept.refl [] x4).drew)) (rowsV_oneCell rowLn vs) (by omega) (by first | exact k9.size | exact Nat.le_refl _); intro a8 c8 w8 ho8 hj8 hat8; have k8 : Kept [] x4 w8 := Kept.trans (by first | exact k9 | exact (Kept.refl [] x4).drew) hj8 (by simp)
                      refine hK.out _ _ ?_ (fun hHeld => ?_)
                      · (try dsimp only); (first | exact hF6 | exact hF k8 | exact hF k9 | exact hF (Kept.refl [] x4).drew)
                      clear hK K
                      try simp only [Act.put, List.getElem_toArray, List.getElem_cons_succ, List.getElem_cons_zero, List.setIfInBounds_toArray, List.set_cons_zero, List.set_cons_succ]
                      refine wpAnyH_ready (rs := [3]) (by kernel_rfl) (by simp) ?_
                      refine AllReadyH.cons rfl (fun K hK => ?_) AllReadyH.nil
                      rw [if_pos (by rfl)]
                      refine wp_bsLn 1 _ rfl [⟨a5, n5, c5, false⟩] rfl (by decide) (by decide) (by kernel_rfl) ?_; intro g9 w9 hg9 hr9 hj9; have k9 : Kept [] x4 w9 := Kept.trans (by first | exact k8 | exact (Kept.refl [] x4).drew) hj9 (by simp)
                      refine hK.out _ _ ?_ (fun hHeld => ?_)
                      · (try dsimp only); (first | exact hF6 | exact hF k8 | exact hF k9 | exact hF (Kept.refl [] x4).drew)
                      clear hK K
                      try simp only [Act.put, List.getElem_toArray, List.getElem_cons_succ, List.getElem_cons_zero, List.setIfInBounds_toArray, List.set_cons_zero, List.set_cons_succ]
                      first | exact H a8 c8 g9 w9 ⟨hHeld, k9, ho8.kept hj9 (by simp), hr9⟩ | exact H a8 c8 g9 w8 ⟨hHeld, k8, ho8, hr9.kept hj8 (by simp)⟩
                    · rw [if_pos (by rfl)]
                      refine wp_bsLn 1 _ rfl [⟨a5, n5, c5, false⟩] rfl (by decide) (by decide) (by kernel_rfl) ?_; intro g9 w9 hg9 hr9 hj9; have k9 : Kept [] x4 w9 := Kept.trans (by first | exact k8 | exact (Kept.refl [] x4).drew) hj9 (by simp)
                      refine hK.out _ _ ?_ (fun hHeld => ?_)
                      · (try dsimp only); (first | exact hF6 | exact hF k8 | exact hF k9 | exact hF (Kept.refl [] x4).drew)
                      clear hK K
                      try simp only [Act.put, List.getElem_toArray, List.getElem_cons_succ, List.getElem_cons_zero, List.setIfInBounds_toArray, List.set_cons_zero, List.set_cons_succ]
                      refine wpAnyH_ready (rs := [1]) (by kernel_rfl) (by simp) ?_
                      refine AllReadyH.cons rfl (fun K hK => ?_) AllReadyH.nil
                      rw [if_pos (by rfl)]
                      refine wp_app0 (base := x4.heap.size) ?_ elLine rfl rfl rfl (hRK.out _ (by first | exact k9 | exact (Kept.refl [] x4).drew)) (rowsV_oneCell rowLn vs) (by omega) (by first | exact k9.size | exact Nat.le_refl _); intro a8 c8 w8 ho8 hj8 hat8; have k8 : Kept [] x4 w8 := Kept.trans (by first | exact k9 | exact (Kept.refl [] x4).drew) hj8 (by simp)
                      refine hK.out _ _ ?_ (fun hHeld => ?_)
                      · (try dsimp only); (first | exact hF6 | exact hF k8 | exact hF k9 | exact hF (Kept.refl [] x4).drew)
                      clear hK K
                      try simp only [Act.put, List.getElem_toArray, List.getElem_cons_succ, List.getElem_cons_zero, List.setIfInBounds_toArray, List.set_cons_zero, List.set_cons_succ]
                      first | exact H a8 c8 g9 w9 ⟨hHeld, k9, ho8.kept hj9 (by simp), hr9⟩ | exact H a8 c8 g9 w8 ⟨hHeld, k8, ho8, hr9.kept hj8 (by simp)⟩
                  case' hS =>
                    intro a8 c8 g9 w9 hF0
                    have hHeld := hF0.1
                    have k9 := hF0.2.1
                    have ho8 := hF0.2.2.1
                    have hr9 := hF0.2.2.2
                    clear hF0
                  refine wpAnyH_ready (rs := [4]) (by kernel_rfl) (by simp) ?_
                  refine AllReadyH.cons rfl (fun K hK => ?_) AllReadyH.nil
                  rw [if_pos (by rfl)]
                  refine wp_app ?_ elLine rfl rfl ho8 rfl hr9 (rowsV_oneCell rowLn _) (by omega) k9.size; intro a6 c6 w6 ho6 hj6 hat6; have k6 : Kept [] x4 w6 := k9.trans hj6 (fun y hy => .inr (ho8.ge y hy).1); have hF6 := hF k6
                  refine hK.out _ _ ?_ (fun hHeld => ?_)
                  · (try dsimp only); (first | exact hF6 | exact hF k8 | exact hF k9 | exact hF (Kept.refl [] x4).drew)
                  clear hK K
                  try simp only [Act.put, List.getElem_toArray, List.getElem_cons_succ, List.getElem_cons_zero, List.setIfInBounds_toArray, List.set_cons_zero, List.set_cons_succ]
                  refine wpAnyH_take (i := 5) (v := ?_) rfl (by kernel_rfl) (by kernel_rfl) (by kernel_rfl) (fun _ _ _ h => h) (Or.inl ⟨by rfl, ?_⟩) (by assumption) ?_
                  rotate_left
                  · (intro wq hSw; (try dsimp only at hSw); go_simp; try with_reducible rfl)
                  try simp only [Act.put, List.getElem_toArray, List.getElem_cons_succ, List.getElem_cons_zero, List.setIfInBounds_toArray, List.set_cons_zero, List.set_cons_succ]
                  refine wpAnyH_done (by kernel_rfl) ?_ _
                  rw [← rowsV_app] at ho6
                  have hT := hH.out.keep k6
                  have ho56 := ho54.out.kept k6 (by simp)
                  have hT2 := hT.list (a' := a6) (n' := n + 1) (c' := c6) (vs' := vs ++ [⟨a5, n5, c5, false⟩]) (ls' := sh.ls ++ [⟨[runeC (1024 + (i : Int))], false⟩]) ⟨ho6.rd, hT.rd.at'.app (.cons ⟨ho56.rd, rfl, ho56.caps.1, ho56.caps.2⟩ .nil)⟩ ho6.caps.1 ho6.caps.2 (fun y hy hm => by have h1 := (ho6.ge y (blkN_sub y hy)).1; have h2 := hB2lt.out y hm; omega) (fun y hy hm => by rw [blks_app] at hy; exact (List.mem_append.1 hy).elim (fun h => hT.d2 y h hm) (fun h => h5B2.out y (by simp only [blks, List.flatMap_cons, List.flatMap_nil, List.append_nil] at h; exact blkN_sub y h) hm))
                  replace hH := hide hT2
                  clear hT hT2 hRK hF ho8 hr9 ho6 hj6 k6 k9 ho56 hHeld
                  generalize n + 1 = m at *
                  have hok := hide (PG.ok _ _ _ _ hH.out.pg)
                  have hsum := sum_ok hok.out.1
                  have hnl := hide hH.out.rd.len
                  have hbd := hide (fun x (hx : x ∈ ((⟨sh.places, sh.gone, sh.ls ++ [⟨[runeC (1024 + (i : Int))], false⟩]⟩ : Sh)).ls) => valid_len (hok.out.1.2 x hx))
                  obtain ⟨R, hR⟩ : ∃ R : Nat, ((⟨sh.places, sh.gone, sh.ls ++ [⟨[runeC (1024 + (i : Int))], false⟩]⟩ : Sh)).room = R := ⟨_, rfl⟩
                  obtain ⟨G, hG⟩ : ∃ G : Nat, ((⟨sh.places, sh.gone, sh.ls ++ [⟨[runeC (1024 + (i : Int))], false⟩]⟩ : Sh)).gone = G := ⟨_, rfl⟩
                  rw [hnl.out, hR, hG, hpl.out] at hsum
                  have t1 : IntKind.i64.wrap (((m : Nat) : Int) + (R : Int)) = ((m : Nat) : Int) + (R : Int) := by rw [IntKind.wrap_i64]; have := hP12.out; omega
                  have t2 : IntKind.i64.wrap (((m : Nat) : Int) + (R : Int) + (G : Int)) = (P : Int) := by rw [IntKind.wrap_i64]; have := hP12.out; omega
                  have hle := hide (show m ≤ 2000 by have := hP12.out; omega)
                  replace hR := hide hR
                  replace hG := hide hG
                  replace hsum := hide hsum
                  go_wp2_with fail
                  refine (hH.out.len ((m : Nat) : Int) (by rw [hnl.out])).mono ?_
                  rintro e z0 ⟨rfl, hT⟩
                  replace hH := hide hT
                  clear hT
                  go_wp2_with fail
                  refine (hH.out.room (R : Int) (by rw [hR.out])).mono ?_
                  rintro e z0 ⟨rfl, hT⟩
                  replace hH := hide hT
                  clear hT
                  go_wp2_with fail
                  refine (hH.out.gone (G : Int) (by rw [hG.out])).mono ?_
                  rintro e z0 ⟨rfl, hT⟩
                  replace hH := hide hT
                  clear hT
                  go_wp2_with fail
                  refine (hH.out.cap (P : Int) (by rw [hpl.out])).mono ?_
                  rintro e z0 ⟨rfl, hT⟩
                  replace hH := hide hT
                  clear hT
                  go_wp2_with fail
                  refine (hH.out.cap (P : Int) (by rw [hpl.out])).mono ?_
                  rintro e z0 ⟨rfl, hT⟩
                  replace hH := hide hT
                  clear hT
                  go_wp2_with fail
                  refine (hH.out.lines (m) hnl.out).mono ?_
                  rintro e z1 ⟨gL, us, rfl, hfr, hT⟩
                  replace hH := hide hT
                  clear hT
                  have hfr := hide hfr
                  go_wp2_with fail
                  refine (all_t (some ⟨gL, 0, none⟩) (m) (m) us _ _ _ _ z1 ⟨hfr.out.mid.rd, hfr.out.lns⟩ hH.out.rd hbd.out hle.out).mono ?_
                  rintro e z2 ⟨rfl, hj⟩
                  have hT := hH.out.keep hj
                  go_wp2_with fail
                  go_roundg (N - (i + 1))
                  case measure => omega
                  case rel => exact ⟨i + 1, _, _, _, _, _, _, by push_cast; rfl, rfl, by omega, Nat.le_refl _, hide ⟨hT, hpl.out⟩⟩
            case true =>
              have hrm := hide (show sh.room = 0 by rw [hR0.out]; have h := hq; simp at h; omega)
              by_cases h2 : r = 2
              · subst h2
                obtain ⟨Y, hY⟩ : ∃ Y : Nat, X / 4 = Y := ⟨_, rfl⟩
                have e1 : Int.tdiv (X : Int) 4 = (Y : Int) := by rw [← hY]; rfl
                have e2 : IntKind.u8.wrap (Y : Int) = (Y : Int) := by simp only [IntKind.wrap_u8]; omega
                have e3 : IntKind.i64.wrap (Y : Int) = (Y : Int) := by rw [IntKind.wrap_i64]; omega
                obtain ⟨d, hd⟩ : ∃ d : Nat, Y % 4 = d := ⟨_, rfl⟩
                have e4 : Int.tmod (Y : Int) 4 = (d : Int) := by rw [← hd]; rfl
                by_cases hdn : d ≤ n
                · have hdi : (d : Int) ≤ (n : Int) := by omega
                  have hs : dropS sh (d : Int) = (⟨sh.places, sh.gone + d, sh.ls.drop d⟩, 0) := by unfold dropS; rw [if_neg (by have := hrl.out; omega)]; simp
                  obtain ⟨a2, hcut, hsub, hcutr⟩ := cutb_l a n c d hdn hH.out.nc hH.out.cm
                  replace hsub := hide hsub
                  replace hcutr := hide hcutr
                  replace hs := hide hs
                  go_wp2_with fail
                  refine (hH.out.drop hw2.out (d : Int) 0 hs.out).mono ?_
                  rintro e x2 ⟨rfl, B2, hT, _, _⟩
                  have hT2 := hT.list ⟨hcutr.out _ _ hT.rd.rd, hT.rd.at'.drop d⟩ (Nat.sub_le_sub_right hT.nc d) (by have := hT.cm; omega) (fun y hy => hT.d1 y (hsub.out y hy)) (fun y hy => hT.d2 y (blks_sub (fun v hv => List.mem_of_mem_drop hv) y hy))
                  replace hH := hide hT2
                  clear hT hT2
                  have hfull : Hid (Sh.room ⟨sh.places, sh.gone + d, sh.ls.drop d⟩ = 0) := hide (by have h1 : sh.room = 0 := hrm.out; have h2 := hrl.out; unfold Sh.room at *; simp only [List.length_drop]; omega)
                  have hok := hide (PG.ok _ _ _ _ hH.out.pg)
                  have hsum := sum_ok hok.out.1
                  have hnl := hide hH.out.rd.len
                  have hbd := hide (fun x (hx : x ∈ ((⟨sh.places, sh.gone + d, sh.ls.drop d⟩ : Sh)).ls) => valid_len (hok.out.1.2 x hx))
                  obtain ⟨R, hR⟩ : ∃ R : Nat, ((⟨sh.places, sh.gone + d, sh.ls.drop d⟩ : Sh)).room = R := ⟨_, rfl⟩
                  obtain ⟨G, hG⟩ : ∃ G : Nat, ((⟨sh.places, sh.gone + d, sh.ls.drop d⟩ : Sh)).gone = G := ⟨_, rfl⟩
                  rw [hnl.out, hR, hG, hpl.out] at hsum
                  have t1 : IntKind.i64.wrap ((((n - d) : Nat) : Int) + (R : Int)) = (((n - d) : Nat) : Int) + (R : Int) := by rw [IntKind.wrap_i64]; have := hP12.out; omega
                  have t2 : IntKind.i64.wrap ((((n - d) : Nat) : Int) + (R : Int) + (G : Int)) = (P : Int) := by rw [IntKind.wrap_i64]; have := hP12.out; omega
                  have hle := hide (show (n - d) ≤ 2000 by have := hP12.out; omega)
                  replace hR := hide hR
                  replace hG := hide hG
                  replace hsum := hide hsum
                  go_wp2_with fail
                  refine (hH.out.room 0 (by rw [hfull.out]; rfl)).mono ?_
                  rintro e z0 ⟨rfl, hT⟩
                  replace hH := hide hT
                  clear hT
                  go_wp2_with fail
                  refine (hH.out.len (((n - d) : Nat) : Int) (by rw [hnl.out])).mono ?_
                  rintro e z0 ⟨rfl, hT⟩
                  replace hH := hide hT
                  clear hT
                  go_wp2_with fail
                  refine (hH.out.room (R : Int) (by rw [hR.out])).mono ?_
                  rintro e z0 ⟨rfl, hT⟩
                  replace hH := hide hT
                  clear hT
                  go_wp2_with fail
                  refine (hH.out.gone (G : Int) (by rw [hG.out])).mono ?_
                  rintro e z0 ⟨rfl, hT⟩
                  replace hH := hide hT
                  clear hT
                  go_wp2_with fail
                  refine (hH.out.cap (P : Int) (by rw [hpl.out])).mono ?_
                  rintro e z0 ⟨rfl, hT⟩
                  replace hH := hide hT
                  clear hT
                  go_wp2_with fail
                  refine (hH.out.cap (P : Int) (by rw [hpl.out])).mono ?_
                  rintro e z0 ⟨rfl, hT⟩
                  replace hH := hide hT
                  clear hT
                  go_wp2_with fail
                  refine (hH.out.lines ((n - d)) hnl.out).mono ?_
                  rintro e z1 ⟨gL, us, rfl, hfr, hT⟩
                  replace hH := hide hT
                  clear hT
                  have hfr := hide hfr
                  go_wp2_with fail
                  refine (all_t (some ⟨gL, 0, none⟩) ((n - d)) ((n - d)) us _ _ _ _ z1 ⟨hfr.out.mid.rd, hfr.out.lns⟩ hH.out.rd hbd.out hle.out).mono ?_
                  rintro e z2 ⟨rfl, hj⟩
                  have hT := hH.out.keep hj
                  go_wp2_with fail
                  go_roundg (N - (i + 1))
                  case measure => omega
                  case rel => exact ⟨i + 1, _, _, _, _, _, _, by push_cast; rfl, rfl, by omega, Nat.le_refl _, hide ⟨hT, hpl.out⟩⟩
                · have hdi : ¬ ((d : Int) ≤ (n : Int)) := by omega
                  have hs : dropS sh (d : Int) = (sh, 3) := by unfold dropS; rw [if_pos (by have := hrl.out; omega)]
                  replace hs := hide hs
                  go_wp2_with fail
                  refine (hH.out.drop hw2.out (d : Int) 3 hs.out).mono ?_
                  rintro e x2 ⟨rfl, B2, hT, _, _⟩
                  replace hH := hide hT
                  clear hT
                  have hok := hide (PG.ok _ _ _ _ hH.out.pg)
                  have hsum := sum_ok hok.out.1
                  have hnl := hide hH.out.rd.len
                  have hbd := hide (fun x (hx : x ∈ (sh).ls) => valid_len (hok.out.1.2 x hx))
                  obtain ⟨R, hR⟩ : ∃ R : Nat, (sh).room = R := ⟨_, rfl⟩
                  obtain ⟨G, hG⟩ : ∃ G : Nat, (sh).gone = G := ⟨_, rfl⟩
                  rw [hnl.out, hR, hG, hpl.out] at hsum
                  have t1 : IntKind.i64.wrap (((n : Nat) : Int) + (R : Int)) = ((n : Nat) : Int) + (R : Int) := by rw [IntKind.wrap_i64]; have := hP12.out; omega
                  have t2 : IntKind.i64.wrap (((n : Nat) : Int) + (R : Int) + (G : Int)) = (P : Int) := by rw [IntKind.wrap_i64]; have := hP12.out; omega
                  have hle := hide (show n ≤ 2000 by have := hP12.out; omega)
                  replace hR := hide hR
                  replace hG := hide hG
                  replace hsum := hide hsum
                  go_wp2_with fail
                  refine (hH.out.room 0 (by rw [hrm.out]; rfl)).mono ?_
                  rintro e z0 ⟨rfl, hT⟩
                  replace hH := hide hT
                  clear hT
                  go_wp2_with fail
                  refine (hH.out.len ((n : Nat) : Int) (by rw [hnl.out])).mono ?_
                  rintro e z0 ⟨rfl, hT⟩
                  replace hH := hide hT
                  clear hT
                  go_wp2_with fail
                  refine (hH.out.room (R : Int) (by rw [hR.out])).mono ?_
                  rintro e z0 ⟨rfl, hT⟩
                  replace hH := hide hT
                  clear hT
                  go_wp2_with fail
                  refine (hH.out.gone (G : Int) (by rw [hG.out])).mono ?_
                  rintro e z0 ⟨rfl, hT⟩
                  replace hH := hide hT
                  clear hT
                  go_wp2_with fail
                  refine (hH.out.cap (P : Int) (by rw [hpl.out])).mono ?_
                  rintro e z0 ⟨rfl, hT⟩
                  replace hH := hide hT
                  clear hT
                  go_wp2_with fail
                  refine (hH.out.cap (P : Int) (by rw [hpl.out])).mono ?_
                  rintro e z0 ⟨rfl, hT⟩
                  replace hH := hide hT
                  clear hT
                  go_wp2_with fail
                  refine (hH.out.lines (n) hnl.out).mono ?_
                  rintro e z1 ⟨gL, us, rfl, hfr, hT⟩
                  replace hH := hide hT
                  clear hT
                  have hfr := hide hfr
                  go_wp2_with fail
                  refine (all_t (some ⟨gL, 0, none⟩) (n) (n) us _ _ _ _ z1 ⟨hfr.out.mid.rd, hfr.out.lns⟩ hH.out.rd hbd.out hle.out).mono ?_
                  rintro e z2 ⟨rfl, hj⟩
                  have hT := hH.out.keep hj
                  go_wp2_with fail
                  go_roundg (N - (i + 1))
                  case measure => omega
                  case rel => exact ⟨i + 1, _, _, _, _, _, _, by push_cast; rfl, rfl, by omega, Nat.le_refl _, hide ⟨hT, hpl.out⟩⟩
              · by_cases h3 : r = 3
                · subst h3
                  by_cases hn0 : n = 0
                  · have hnz : ¬ ((n : Int) > 0) := by omega
                    have hnz2 : ¬ (0 < n) := by omega
                    have hnz3 : ¬ ((0 : Int) < (n : Int)) := by omega
                    have hs : popS sh = (sh, noLn, 9) := by unfold popS; rw [if_pos (List.eq_nil_of_length_eq_zero (by rw [hrl.out]; exact hn0))]
                    replace hs := hide hs
                    replace hn0 := hide hn0
                    go_wp2_with fail
                    refine (hH.out.pop0 hw2.out hs.out).mono ?_
                    rintro e x2 ⟨a4, n4, c4, rfl, B2, hT⟩
                    go_upto_region 25 with (refine wpList_store_lin rfl rfl rfl x2.heap.size rfl (LinIn.new x2 none 0 0 false) a4 n4 c4 false rfl ?_; intro x3 hb3 hj3)
                    have hj23 : Kept [] x2 x3 := ((Kept.refl [] x2).alloc (.cells #[.slice none 0 0, .bool false] 35)).trans hj3 (by simp)
                    replace hH := hide (hT.keep hj23)
                    clear hT hb3 hj3 hj23
                    have hok := hide (PG.ok _ _ _ _ hH.out.pg)
                    have hsum := sum_ok hok.out.1
                    have hnl := hide hH.out.rd.len
                    have hbd := hide (fun x (hx : x ∈ (sh).ls) => valid_len (hok.out.1.2 x hx))
                    obtain ⟨R, hR⟩ : ∃ R : Nat, (sh).room = R := ⟨_, rfl⟩
                    obtain ⟨G, hG⟩ : ∃ G : Nat, (sh).gone = G := ⟨_, rfl⟩
                    rw [hnl.out, hR, hG, hpl.out] at hsum
                    have t1 : IntKind.i64.wrap (((n : Nat) : Int) + (R : Int)) = ((n : Nat) : Int) + (R : Int) := by rw [IntKind.wrap_i64]; have := hP12.out; omega
                    have t2 : IntKind.i64.wrap (((n : Nat) : Int) + (R : Int) + (G : Int)) = (P : Int) := by rw [IntKind.wrap_i64]; have := hP12.out; omega
                    have hle := hide (show n ≤ 2000 by have := hP12.out; omega)
                    replace hR := hide hR
                    replace hG := hide hG
                    replace hsum := hide hsum
                    go_wp2_with fail
                    refine (hH.out.room 0 (by rw [hrm.out]; rfl)).mono ?_
                    rintro e z0 ⟨rfl, hT⟩
                    replace hH := hide hT
                    clear hT
                    go_wp2_with fail
                    refine (hH.out.len ((n : Nat) : Int) (by rw [hnl.out])).mono ?_
                    rintro e z0 ⟨rfl, hT⟩
                    replace hH := hide hT
                    clear hT
                    go_wp2_with fail
                    refine (hH.out.room (R : Int) (by rw [hR.out])).mono ?_
                    rintro e z0 ⟨rfl, hT⟩
                    replace hH := hide hT
                    clear hT
                    go_wp2_with fail
                    refine (hH.out.gone (G : Int) (by rw [hG.out])).mono ?_
                    rintro e z0 ⟨rfl, hT⟩
                    replace hH := hide hT
                    clear hT
                    go_wp2_with fail
                    refine (hH.out.cap (P : Int) (by rw [hpl.out])).mono ?_
                    rintro e z0 ⟨rfl, hT⟩
                    replace hH := hide hT
                    clear hT
                    go_wp2_with fail
                    refine (hH.out.cap (P : Int) (by rw [hpl.out])).mono ?_
                    rintro e z0 ⟨rfl, hT⟩
                    replace hH := hide hT
                    clear hT
                    go_wp2_with fail
                    refine (hH.out.lines (n) hnl.out).mono ?_
                    rintro e z1 ⟨gL, us, rfl, hfr, hT⟩
                    replace hH := hide hT
                    clear hT
                    have hfr := hide hfr
                    go_wp2_with fail
                    refine (all_t (some ⟨gL, 0, none⟩) (n) (n) us _ _ _ _ z1 ⟨hfr.out.mid.rd, hfr.out.lns⟩ hH.out.rd hbd.out hle.out).mono ?_
                    rintro e z2 ⟨rfl, hj⟩
                    have hT := hH.out.keep hj
                    go_wp2_with fail
                    go_roundg (N - (i + 1))
                    case measure => omega
                    case rel => exact ⟨i + 1, _, _, _, _, _, _, by push_cast; rfl, rfl, by omega, Nat.le_refl _, hide ⟨hT, hpl.out⟩⟩
                  · have hne : sh.ls ≠ [] := fun h0 => by have := hrl.out; rw [h0] at this; simp at this; omega
                    have hdl : n - 1 < sh.ls.length := by have := hrl.out; omega
                    have hdv : n - 1 < vs.length := by have := hH.out.rd.vlen; omega
                    have hlast : sh.ls.getLastD noLn = sh.ls[n - 1] := by rw [List.getLastD_eq_getLast?, List.getLast?_eq_getElem?, hrl.out, List.getElem?_eq_getElem hdl, Option.getD_some]
                    have hs : popS sh = (⟨sh.places, sh.gone, sh.ls.dropLast⟩, sh.ls[n - 1], 0) := by unfold popS; rw [if_neg hne, hlast]
                    have hld : Hid (sh.ls.dropLast = sh.ls.take (n - 1)) := hide (by rw [List.dropLast_eq_take, hrl.out])
                    obtain ⟨g, o, rfl⟩ := hH.out.rd.rd.rowAddr rowLn (by omega)
                    obtain ⟨a2, hcut, hsub, hcutr⟩ := cutb_h (some ⟨g, o, none⟩) n c (n - 1) (by omega) hH.out.nc hH.out.cm
                    have hrow := hide (fun w1 (hr : LnsR w1 (some ⟨g, o, none⟩) n vs sh.ls) => hr.rd.row rowLn (n - 1) hdv)
                    have hat0 := hide (fun w1 (hr : LnsR w1 (some ⟨g, o, none⟩) n vs sh.ls) => hr.at'.get (n - 1) hdv hdl)
                    have hly := hide (valid_len (hok0.out.1.2 _ (List.getElem_mem hdl)))
                    have hw1 : IntKind.i64.wrap ((n : Int) - 1) = ((n - 1 : Nat) : Int) := by rw [IntKind.wrap_i64]; have := hn12.out; omega
                    have hdi : ((n - 1 : Nat) : Int) < (n : Int) := by omega
                    have hnp : (n : Int) > 0 := by omega
                    have hnp2 : 0 < n := by omega
                    have hnp3 : (0 : Int) < (n : Int) := by omega
                    have hm1 := hide (show n - 1 ≤ c by have := hH.out.nc; omega)
                    replace hsub := hide hsub
                    replace hcutr := hide hcutr
                    replace hs := hide hs
                    clear hlast hne
                    generalize sh.ls[n - 1] = y at *
                    generalize vs[n - 1] = v at *
                    replace hdl := hide hdl
                    replace hdv := hide hdv
                    obtain ⟨m, hmn⟩ : ∃ m : Nat, n - 1 = m := ⟨_, rfl⟩
                    rw [hmn] at hld hcut hsub hcutr hrow hw1 hdi hm1
                    replace hmn := hide hmn
                    go_wp2_with fail
                    refine (hH.out.pop hw2.out y 0 hs.out).mono ?_
                    rintro e x2 ⟨a4, n4, c4, rfl, hat, hown, _, B2, hT, _, _, _⟩
                    go_upto_region 25 with (refine wpList_store_lin rfl rfl rfl x2.heap.size rfl (LinIn.new x2 none 0 0 false) a4 n4 c4 y.s rfl ?_; intro x3 hb3 hj3)
                    have hj23 : Kept [] x2 x3 := ((Kept.refl [] x2).alloc (.cells #[.slice none 0 0, .bool false] 35)).trans hj3 (by simp)
                    replace hH := hide (hT.keep hj23)
                    have hat3 := hide (hat.kept hj23 (by simp))
                    have hb3 := hide hb3
                    clear hT hat hown hj3 hj23
                    go_upto_region 28 with fail
                    have hF : ∀ {w1 : World}, Kept [] x3 w1 → LinIn w1 x2.heap.size a4 n4 c4 y.s ∧ w1.rangeAt g (o + m * 2) (lnV v) := fun hk => ⟨hb3.out.kept hk (by simp), hrow.out _ (hH.out.keep hk).rd⟩
                    have hSm := hide (fun w1 (hk : Kept [] x3 w1) => rSame6_any a4 n4 c4 y.s y.l v.a v.n v.c v.s y.l w1 (hat3.out.rd.kept hk (by simp)) (hat0.out w1 (hH.out.keep hk).rd).rd (by have h1 := hat3.out.len; have h2 := hly.out; simp only at h1; omega))
                    rw [show decide (y.s = v.s ∧ y.l = y.l) = true by rw [(hat0.out x3 hH.out.rd).s]; simp] at hSm
                    refine wp_region_held_drew (S := (fun w1 => LinIn w1 x2.heap.size a4 n4 c4 y.s ∧ w1.rangeAt g (o + m * 2) (lnV v))) (by kernel_rfl) ?_ (fun hHeld => ?_)
                    · (try dsimp only); (first | exact hF k4 | exact hF (Kept.refl [] x3).drew)
                    refine wpAnyH_take (i := 0) (v := (.agg #[.slice a4 n4 c4, .bool y.s])) rfl (by kernel_rfl) (by kernel_rfl) (by kernel_rfl) (fun _ _ _ h => h) (yieldsIf_load_mid (by rfl) 35 _ rfl x2.heap.size 0 rfl (linL a4 n4 c4 y.s) _ (fun _ h => h.1.range) Tryd.underlying35 rfl (by kernel_rfl)) (by assumption) ?_
                    try simp only [Act.put, List.getElem_toArray, List.getElem_cons_zero, List.setIfInBounds_toArray, List.set_cons_zero, List.set_cons_succ]
                    refine wpAnyH_take (i := 1) (v := ?_) rfl (by kernel_rfl) (by kernel_rfl) (by kernel_rfl) (fun _ _ _ h => h) (Or.inl ⟨by rfl, ?_⟩) (by assumption) ?_
                    rotate_left
                    · (intro wq hSw; (try dsimp only at hSw); go_simp; try with_reducible rfl)
                    try simp only [Act.put, List.getElem_toArray, List.getElem_cons_succ, List.getElem_cons_zero, List.setIfInBounds_toArray, List.set_cons_zero, List.set_cons_succ]
                    refine wpAnyH_take (i := 2) (v := ?_) rfl (by kernel_rfl) (by kernel_rfl) (by kernel_rfl) (fun _ _ _ h => h) (Or.inl ⟨by rfl, ?_⟩) (by assumption) ?_
                    rotate_left
                    · (intro wq hSw; (try dsimp only at hSw); go_simp; try with_reducible rfl)
                    try simp only [Act.put, List.getElem_toArray, List.getElem_cons_succ, List.getElem_cons_zero, List.setIfInBounds_toArray, List.set_cons_zero, List.set_cons_succ]
                    refine wpAnyH_take (i := 3) (v := ?_) rfl (by kernel_rfl) (by kernel_rfl) (by kernel_rfl) (fun _ _ _ h => h) (Or.inl ⟨by rfl, ?_⟩) (by assumption) ?_
                    rotate_left
                    · (intro wq hSw; (try dsimp only at hSw); go_simp; try with_reducible rfl)
                    try simp only [Act.put, List.getElem_toArray, List.getElem_cons_succ, List.getElem_cons_zero, List.setIfInBounds_toArray, List.set_cons_zero, List.set_cons_succ]
                    refine wpAnyH_take (i := 4) (v := ?_) rfl (by kernel_rfl) (by kernel_rfl) (by kernel_rfl) (fun _ _ _ h => h) (Or.inl ⟨by rfl, ?_⟩) (by assumption) ?_
                    rotate_left
                    · (intro wq hSw; (try dsimp only at hSw); go_simp; try with_reducible rfl)
                    try simp only [Act.put, List.getElem_toArray, List.getElem_cons_succ, List.getElem_cons_zero, List.setIfInBounds_toArray, List.set_cons_zero, List.set_cons_succ]
                    refine wpAnyH_take (i := 5) (v := ?_) rfl (by kernel_rfl) (by kernel_rfl) (by kernel_rfl) (fun _ _ _ h => h) (Or.inl ⟨by rfl, ?_⟩) (by assumption) ?_
                    rotate_left
                    · (intro wq hSw; (try dsimp only at hSw); go_simp; try with_reducible rfl)
                    try simp only [Act.put, List.getElem_toArray, List.getElem_cons_succ, List.getElem_cons_zero, List.setIfInBounds_toArray, List.set_cons_zero, List.set_cons_succ]
                    refine wpAnyH_take (i := 6) (v := (.agg #[.slice v.a v.n v.c, .bool v.s])) rfl (by kernel_rfl) (by kernel_rfl) (by kernel_rfl) (fun _ _ _ h => h) (yieldsIf_load_mid (by rfl) 35 _ rfl g (o + m * 2) rfl (lnV v) _ (fun _ h => h.2) Tryd.underlying35 rfl (by kernel_rfl)) (by assumption) ?_
                    try simp only [Act.put, List.getElem_toArray, List.getElem_cons_succ, List.getElem_cons_zero, List.setIfInBounds_toArray, List.set_cons_zero, List.set_cons_succ]
                    refine wpAnyH_ready (rs := [7]) (by kernel_rfl) (by simp) ?_
                    refine AllReadyH.cons rfl (fun K hK => ?_) AllReadyH.nil
                    go_simp
                    refine (hSm.out _ (Kept.refl [] x3).drew).mono ?_; rintro e x4 ⟨rfl, hj4⟩; have k4 : Kept [] x3 x4 := (Kept.refl [] x3).drew.trans hj4 (by simp)
                    try go_wp2_with fail
                    refine hK.out _ _ ?_ (fun hHeld => ?_)
                    · (try dsimp only); (first | exact hF k4 | exact hF (Kept.refl [] x3).drew)
                    clear hK K
                    try simp only [Act.put, List.getElem_toArray, List.getElem_cons_succ, List.getElem_cons_zero, List.setIfInBounds_toArray, List.set_cons_zero, List.set_cons_succ]
                    refine wpAnyH_take (i := 8) (v := ?_) rfl (by kernel_rfl) (by kernel_rfl) (by kernel_rfl) (fun _ _ _ h => h) (Or.inl ⟨by rfl, ?_⟩) (by assumption) ?_
                    rotate_left
                    · (intro wq hSw; (try dsimp only at hSw); go_simp; try with_reducible rfl)
                    try simp only [Act.put, List.getElem_toArray, List.getElem_cons_succ, List.getElem_cons_zero, List.setIfInBounds_toArray, List.set_cons_zero, List.set_cons_succ]
                    refine wpAnyH_done (by kernel_rfl) ?_ _
                    have hT := hH.out.keep k4
                    have hT2 := hT.list (s := ⟨sh.places, sh.gone, sh.ls.dropLast⟩) (ls' := sh.ls.dropLast) ⟨hcutr.out _ _ hT.rd.rd, by rw [hld.out]; exact hT.rd.at'.take m⟩ hm1.out hT.cm (fun y hy => hT.d1 y (hsub.out y hy)) (fun y hy => hT.d2 y (blks_sub (fun v hv => List.mem_of_mem_take hv) y hy))
                    replace hH := hide hT2
                    clear hT hT2 hSm hrow hat0 hat3 hb3 hF k4 hj4
                    have hok := hide (PG.ok _ _ _ _ hH.out.pg)
                    have hsum := sum_ok hok.out.1
                    have hnl := hide hH.out.rd.len
                    have hbd := hide (fun x (hx : x ∈ ((⟨sh.places, sh.gone, sh.ls.dropLast⟩ : Sh)).ls) => valid_len (hok.out.1.2 x hx))
                    obtain ⟨R, hR⟩ : ∃ R : Nat, ((⟨sh.places, sh.gone, sh.ls.dropLast⟩ : Sh)).room = R := ⟨_, rfl⟩
                    obtain ⟨G, hG⟩ : ∃ G : Nat, ((⟨sh.places, sh.gone, sh.ls.dropLast⟩ : Sh)).gone = G := ⟨_, rfl⟩
                    rw [hnl.out, hR, hG, hpl.out] at hsum
                    have t1 : IntKind.i64.wrap (((m : Nat) : Int) + (R : Int)) = ((m : Nat) : Int) + (R : Int) := by rw [IntKind.wrap_i64]; have := hP12.out; omega
                    have t2 : IntKind.i64.wrap (((m : Nat) : Int) + (R : Int) + (G : Int)) = (P : Int) := by rw [IntKind.wrap_i64]; have := hP12.out; omega
                    have hle := hide (show m ≤ 2000 by have := hP12.out; omega)
                    replace hR := hide hR
                    replace hG := hide hG
                    replace hsum := hide hsum
                    go_wp2_with fail
                    refine (hH.out.len ((m : Nat) : Int) (by rw [hnl.out])).mono ?_
                    rintro e z0 ⟨rfl, hT⟩
                    replace hH := hide hT
                    clear hT
                    go_wp2_with fail
                    refine (hH.out.room (R : Int) (by rw [hR.out])).mono ?_
                    rintro e z0 ⟨rfl, hT⟩
                    replace hH := hide hT
                    clear hT
                    go_wp2_with fail
                    refine (hH.out.gone (G : Int) (by rw [hG.out])).mono ?_
                    rintro e z0 ⟨rfl, hT⟩
                    replace hH := hide hT
                    clear hT
                    go_wp2_with fail
                    refine (hH.out.cap (P : Int) (by rw [hpl.out])).mono ?_
                    rintro e z0 ⟨rfl, hT⟩
                    replace hH := hide hT
                    clear hT
                    go_wp2_with fail
                    refine (hH.out.cap (P : Int) (by rw [hpl.out])).mono ?_
                    rintro e z0 ⟨rfl, hT⟩
                    replace hH := hide hT
                    clear hT
                    go_wp2_with fail
                    refine (hH.out.lines (m) hnl.out).mono ?_
                    rintro e z1 ⟨gL, us, rfl, hfr, hT⟩
                    replace hH := hide hT
                    clear hT
                    have hfr := hide hfr
                    go_wp2_with fail
                    refine (all_t (some ⟨gL, 0, none⟩) (m) (m) us _ _ _ _ z1 ⟨hfr.out.mid.rd, hfr.out.lns⟩ hH.out.rd hbd.out hle.out).mono ?_
                    rintro e z2 ⟨rfl, hj⟩
                    have hT := hH.out.keep hj
                    go_wp2_with fail
                    go_roundg (N - (i + 1))
                    case measure => omega
                    case rel => exact ⟨i + 1, _, _, _, _, _, _, by push_cast; rfl, rfl, by omega, Nat.le_refl _, hide ⟨hT, hpl.out⟩⟩
                · have g2 : (r == 2) = false := by simp [h2]
                  have g3 : (r == 3) = false := by simp [h3]
                  have f1 : IntKind.i64.wrap (1024 + (i : Int)) = 1024 + (i : Int) := by rw [IntKind.wrap_i64]; have := hN60.out; omega
                  have f2 : IntKind.i32.wrap (1024 + (i : Int)) = 1024 + (i : Int) := by rw [IntKind.wrap_i32]; have := hN60.out; omega
                  have hvx : validL [runeC (1024 + (i : Int))] = true := rune_ok i (by have := hN60.out; omega)
                  have hs : pushS sh ⟨[runeC (1024 + (i : Int))], false⟩ = (sh, 7) := by unfold pushS; rw [if_neg (by simp [hvx]), if_pos (hrm.out)]
                  replace hs := hide hs
                  replace hvx := hide hvx
                  go_wp2_with fail
                  refine (text7_any (1024 + (i : Int)) x1).mono ?_
                  rintro e x2 ⟨a5, n5, c5, rfl, ho5, h5a, h5b, hj2⟩
                  have hBlt := hide (PG.lt _ _ _ _ hH.out.pg)
                  replace hH := hide (hH.out.keep hj2)
                  go_upto_region 13 with (refine wpList_store_lin rfl rfl rfl x2.heap.size rfl (LinIn.new x2 none 0 0 false) a5 n5 c5 false rfl ?_; intro x3 hb3 hj3)
                  have hj23 : Kept [] x2 x3 := ((Kept.refl [] x2).alloc (.cells #[.slice none 0 0, .bool false] 35)).trans hj3 (by simp)
                  replace hH := hide (hH.out.keep hj23)
                  have ho5 := hide (ho5.kept hj23 (by simp))
                  have hb3 := hide hb3
                  have hs23 := hide hj23.size
                  clear hj3 hj23
                  obtain ⟨p0, p1⟩ := hb3.out.at
                  go_wp2_with fail
                  refine (hH.out.push hw2.out a5 n5 c5 ⟨[runeC (1024 + (i : Int))], false⟩ ho5.out.rd 7 hs.out).mono ?_
                  rintro e x4 ⟨rfl, B2, hT, hk4, hB2⟩
                  replace hH := hide hT
                  clear hT hk4 hB2 hBlt ho5 hb3 p0 p1
                  have hok := hide (PG.ok _ _ _ _ hH.out.pg)
                  have hsum := sum_ok hok.out.1
                  have hnl := hide hH.out.rd.len
                  have hbd := hide (fun x (hx : x ∈ (sh).ls) => valid_len (hok.out.1.2 x hx))
                  obtain ⟨R, hR⟩ : ∃ R : Nat, (sh).room = R := ⟨_, rfl⟩
                  obtain ⟨G, hG⟩ : ∃ G : Nat, (sh).gone = G := ⟨_, rfl⟩
                  rw [hnl.out, hR, hG, hpl.out] at hsum
                  have t1 : IntKind.i64.wrap (((n : Nat) : Int) + (R : Int)) = ((n : Nat) : Int) + (R : Int) := by rw [IntKind.wrap_i64]; have := hP12.out; omega
                  have t2 : IntKind.i64.wrap (((n : Nat) : Int) + (R : Int) + (G : Int)) = (P : Int) := by rw [IntKind.wrap_i64]; have := hP12.out; omega
                  have hle := hide (show n ≤ 2000 by have := hP12.out; omega)
                  replace hR := hide hR
                  replace hG := hide hG
                  replace hsum := hide hsum
                  go_wp2_with fail
                  refine (hH.out.room 0 (by rw [hrm.out]; rfl)).mono ?_
                  rintro e z0 ⟨rfl, hT⟩
                  replace hH := hide hT
                  clear hT
                  go_wp2_with fail
                  refine (hH.out.len ((n : Nat) : Int) (by rw [hnl.out])).mono ?_
                  rintro e z0 ⟨rfl, hT⟩
                  replace hH := hide hT
                  clear hT
                  go_wp2_with fail
                  refine (hH.out.room (R : Int) (by rw [hR.out])).mono ?_
                  rintro e z0 ⟨rfl, hT⟩
                  replace hH := hide hT
                  clear hT
                  go_wp2_with fail
                  refine (hH.out.gone (G : Int) (by rw [hG.out])).mono ?_
                  rintro e z0 ⟨rfl, hT⟩
                  replace hH := hide hT
                  clear hT
                  go_wp2_with fail
                  refine (hH.out.cap (P : Int) (by rw [hpl.out])).mono ?_
                  rintro e z0 ⟨rfl, hT⟩
                  replace hH := hide hT
                  clear hT
                  go_wp2_with fail
                  refine (hH.out.cap (P : Int) (by rw [hpl.out])).mono ?_
                  rintro e z0 ⟨rfl, hT⟩
                  replace hH := hide hT
                  clear hT
                  go_wp2_with fail
                  refine (hH.out.lines (n) hnl.out).mono ?_
                  rintro e z1 ⟨gL, us, rfl, hfr, hT⟩
                  replace hH := hide hT
                  clear hT
                  have hfr := hide hfr
                  go_wp2_with fail
                  refine (all_t (some ⟨gL, 0, none⟩) (n) (n) us _ _ _ _ z1 ⟨hfr.out.mid.rd, hfr.out.lns⟩ hH.out.rd hbd.out hle.out).mono ?_
                  rintro e z2 ⟨rfl, hj⟩
                  have hT := hH.out.keep hj
                  go_wp2_with fail
                  go_roundg (N - (i + 1))
                  case measure => omega
                  case rel => exact ⟨i + 1, _, _, _, _, _, _, by push_cast; rfl, rfl, by omega, Nat.le_refl _, hide ⟨hT, hpl.out⟩⟩
          · obtain rfl : i = N := by omega
            go_wp2_with fail
            refine (hkn0.out wr hH.out.kp).mono ?_
            rintro e z3 ⟨rfl, hj⟩
            go_wp2_with fail
            go_ret
            exact ⟨rfl, hH.out.kp.trans hj (by simp)⟩
end Go.Proofs.YtpeedjknjjbabaaDoor
