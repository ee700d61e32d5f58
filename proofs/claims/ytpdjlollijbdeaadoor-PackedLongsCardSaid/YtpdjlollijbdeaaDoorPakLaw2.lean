/- The walk of PackedHolds. -/
import Derived.Test.YtpdjlollijbdeaaDoorPakLaw1
namespace Go.Proofs.YtpdjlollijbdeaaDoor
open Go.RowKit
set_option linter.unusedVariables false
set_option maxRecDepth 10000

theorem packR_ok {l : List Cl} (hl : l.length ≤ 100000) (h : ∀ c ∈ l, validC c = true) : packR l = (packL l, 0) := by
  unfold packR
  rw [if_neg (by omega), if_pos h]
theorem packR_bad {l : List Cl} (hl : l.length ≤ 100000) (h : ¬ ∀ c ∈ l, validC c = true) : packR l = ([], 2) := by
  unfold packR
  rw [if_neg (by omega), if_neg h]
theorem valid_app {a b : List Cl} : (∀ c ∈ a ++ b, validC c = true) ↔ (∀ c ∈ a, validC c = true) ∧ ∀ c ∈ b, validC c = true := by
  simp only [List.mem_append]
  exact ⟨fun h => ⟨fun c hc => h c (.inl hc), fun c hc => h c (.inr hc)⟩, fun h c hc => hc.elim (h.1 c) (h.2 c)⟩
/-- What is known of the runs of valid cells. -/
theorem pack_facts {a : List Cl} (hl : a.length ≤ 100000) (hv : ∀ c ∈ a, validC c = true) (hb : ∀ c ∈ a, PnB c.p) : (totI (packL a)).2 = true ∧ (totI (packL a)).1 = (a.length : Int) ∧ (packL a).length ≤ a.length ∧ (decide ((unpackR (packL a)).1 = a) && decide ((unpackR (packL a)).2 = 0)) = true ∧ ∀ r ∈ packL a, RuB r := by
  obtain ⟨p, hp⟩ := pack_tot hl hv hb
  have ht := totI_some hp
  have hr := tot_right hp
  refine ⟨by rw [ht], by rw [ht], pack_len' a, ?_, ?_⟩
  · unfold unpackR
    rw [ht, if_pos rfl, pack_back hl hv hb]
    simp
  · intro r hr'
    obtain ⟨h1, h2⟩ := hr.all r hr'
    have hm := hr.fine.mem r hr'
    obtain ⟨hv2, hw⟩ := okW_valid h2
    refine ⟨⟨by omega, by omega⟩, ?_⟩
    rw [← hw]
    exact words_bound hv2 (cell_pn _)
theorem join_facts {a b : List Cl} (hl : a.length + b.length ≤ 100000) (hv : ∀ c ∈ a, validC c = true) (hb : ∀ c ∈ a, PnB c.p) (hv2 : ∀ c ∈ b, validC c = true) (hb2 : ∀ c ∈ b, PnB c.p) : (decide ((joinR (packL a) (packL b)).1 = packL (a ++ b)) && decide ((joinR (packL a) (packL b)).2 = 0)) = true := by
  obtain ⟨p, hp⟩ := pack_tot (by omega) hv hb
  obtain ⟨q, hq⟩ := pack_tot (by omega) hv2 hb2
  have e := join_is hp hq
  rw [pack_back (by omega) hv hb, pack_back (by omega) hv2 hb2] at e
  have h1 := totI_some hp
  have h2 := totI_some hq
  unfold joinR
  rw [h1, h2, if_neg (by simp), if_neg (by simp only; omega), e]
  simp

set_option maxHeartbeats 4000000 in
theorem PackedHolds_long (KN : KnownIs5) (a1 : Option Addr) (n1 c1 : Nat) (a2 : Option Addr) (n2 c2 : Nat) (hn : 40 < n1 ∨ 40 < n2) (w : World) (ht : Tabs w) : Calls Tryd.prog 8 #[.slice a1 n1 c1, .slice a2 n2 c2] w fun e w' => e = .returned (.bool true) ∧ Kept [] w w' := by
  have hKN := hide (KN w ht)
  clear ht KN
  by_cases h1 : 40 < n1
  · have hn2 : (40 : Int) < (n1 : Int) := by omega
    go_enter Tryd.func8, Tryd.ntmps8
    go_wp2_with fail
    refine hKN.out.mono ?_
    rintro e w1 ⟨rfl, hk1⟩
    go_wp2_with fail
    go_ret
    exact ⟨rfl, hk1⟩
  · have hn2 : (40 : Int) < (n2 : Int) := by omega
    have hn1 : (n1 : Int) ≤ 40 := by omega
    go_enter Tryd.func8, Tryd.ntmps8
    go_wp2_with fail
    refine hKN.out.mono ?_
    rintro e w1 ⟨rfl, hk1⟩
    go_wp2_with fail
    go_ret
    exact ⟨rfl, hk1⟩

set_option maxHeartbeats 20000000 in
set_option maxRecDepth 100000 in
theorem PackedHolds_walk (KN : KnownIs5) (a1 : Option Addr) (n1 c1 : Nat) (l : List Cl) (a2 : Option Addr) (n2 c2 : Nat) (m : List Cl) (hn1 : n1 ≤ 40) (hn2 : n2 ≤ 40) (hB1 : ∀ x ∈ l, PnB x.p) (hB2 : ∀ x ∈ m, PnB x.p) (w : World) (ht : Tabs w) (hr1 : Rd w a1 n1 16 (cellsV l)) (hr2 : Rd w a2 n2 16 (cellsV m)) :
    Calls Tryd.prog 8 #[.slice a1 n1 c1, .slice a2 n2 c2] w fun e w' => e = .returned (.bool true) ∧ Kept [] w w' := by
  have hl1 := hide hr1.clen
  have hl2 := hide hr2.clen
  have hT := hide (fun w1 (hk : Kept [] w w1) => ht.kept hk)
  have hKN := hide KN
  have hH1 := hide hr1
  have hH2 := hide hr2
  have hWd := hide (fun (x : Cl) hb w1 (hk : Kept [] w w1) => Words_any x hb w1 (ht.kept hk))
  have hPa := hide (Pack5_any a1 n1 c1 l hB1 w ht hr1 (by omega))
  have hPb := hide (fun w1 (hk : Kept [] w w1) => Pack5_any a2 n2 c2 m hB2 w1 (ht.kept hk) (hr2.kept hk (by simp)) (by omega))
  have hPab := hide (fun a n c w1 (hk : Kept [] w w1) (hr : Rd w1 a n 16 (cellsV (l ++ m))) hn => Pack5_any a n c (l ++ m) (fun x hx => (List.mem_append.1 hx).elim (hB1 x) (hB2 x)) w1 (ht.kept hk) hr hn)
  have hB1 := hide hB1
  have hB2 := hide hB2
  have i1 : (n1 : Int) ≤ 40 := by omega
  have i2 : (n2 : Int) ≤ 40 := by omega
  have hw0 := fun w1 => Own.nil w1 w.heap.size 30 16
  have hlen1 : l.length ≤ 40 := by have := hl1.out; omega
  have hlen2 : m.length ≤ 40 := by have := hl2.out; omega
  clear ht KN hr1 hr2
  by_cases hva : ∀ c ∈ l, validC c = true
  · rw [packR_ok (by omega) hva] at hPa
    obtain ⟨fa1, fa2, fa3, fa4, fa5⟩ := pack_facts (a := l) (by omega) hva hB1.out
    have hVa := hide (fun a n c w1 (hk : Kept [] w w1) hr hn => Valid5_any a n c (packL l) fa5 w1 (hT.out w1 hk) hr hn)
    have hCa := hide (fun a n c w1 (hk : Kept [] w w1) hr hn => Count5_any a n c (packL l) fa5 w1 (hT.out w1 hk) hr hn)
    have hUa := hide (fun a n c w1 (hk : Kept [] w w1) hr hn hr2 => unpacks_ask a n c (packL l) fa5 0 a1 n1 c1 l true fa4 w1 (hT.out w1 hk) hr hn hr2)
    rw [fa1] at hVa
    rw [fa2, hl1.out] at hCa
    have ga3 := hide fa3
    by_cases hvb : ∀ c ∈ m, validC c = true
    · rw [packR_ok (by omega) hvb] at hPb
      rw [packR_ok (by simp; omega) (valid_app.2 ⟨hva, hvb⟩)] at hPab
      obtain ⟨fb1, fb2, fb3, fb4, fb5⟩ := pack_facts (a := m) (by omega) hvb hB2.out
      have gb3 := hide fb3
      have hJ := hide (fun a n c ab nb cb a3 n3 c3 w1 (hk : Kept [] w w1) hr hrb hn hnb hr2 => joins_ask a n c (packL l) ab nb cb (packL m) fa5 fb5 0 a3 n3 c3 (packL (l ++ m)) true (join_facts (by omega) hva hB1.out hvb hB2.out) w1 (hT.out w1 hk) hr hrb hn hnb hr2)
      clear fa1 fa2 fa3 fa4 fa5 fb1 fb2 fb3 fb4 fb5 hva hvb
      generalize packL l = x at *
      generalize packL m = y at *
      generalize packL (l ++ m) = z at *
      go_enter Tryd.func8, Tryd.ntmps8
      go_wp2_with fail
      refine hPa.out.mono ?_
      rintro e w1 ⟨a4, n4, c4, rfl, ho4, hk1⟩
      go_wp2_with fail
      refine (hPb.out w1 hk1).mono ?_
      rintro e w2 ⟨a5, n5, c5, rfl, ho5, hj2⟩
      have hk2 := hk1.trans hj2 (by simp)
      have ho4 := hide (ho4.kept hj2 (by simp))
      have ho5 := hide (ho5.base hk1.size)
      have hs2 := hk2.size
      have q1 := hH1.out.kept hk2 (by simp)
      have q2 := hH2.out.kept hk2 (by simp)
      have o1 := cellsV_one l
      have o2 := cellsV_one m
      go_wp2_with (at_builtin; first
        | (refine wpList_app ?_ rfl elCell rfl rfl ho6 rfl q3 o2 ?p4 ?p5; intro a7 c7 w4 ho7 hk4 hat7)
        | (refine wpList_app ?_ rfl elCell rfl rfl (hw0 w2) rfl q1 o1 ?p2 ?p3; intro a6 c6 w3 ho6 hk3 hat6; rw [Nat.zero_add, List.nil_append] at ho6; have hk3 : Kept [] w2 w3 := hk3; have hs3 := hk3.size; have q3 := q2.kept hk3 (by simp)))
      case p2 => omega
      case p3 => exact hs2
      case p4 => omega
      case p5 => omega
      rw [← cellsV_app] at ho7
      have hk4' : Kept [] w w4 := (hk2.trans hk3 (by simp)).own hk4 (fun g hg => (ho6.ge g hg).1)
      have hP7 := hide (hPab.out a7 (n1 + n2) c7 w4 hk4' ho7.rd (by omega))
      have ho4 := hide ((ho4.out.kept hk3 (by simp)).kept hk4 (fun g hg hg6 => by have h1 := (ho4.out.ge g hg).2; rcases hat6 g hg6 with h2 | h2; cases h2; omega))
      have ho5 := hide ((ho5.out.kept hk3 (by simp)).kept hk4 (fun g hg hg6 => by have h1 := (ho5.out.ge g hg).2; rcases hat6 g hg6 with h2 | h2; cases h2; omega))
      clear q1 q2 q3 o1 o2 ho6 ho7 hk3 hk4 hat6 hat7 hPab
      refine hP7.out.mono ?_
      rintro e w5 ⟨a8, n8, c8, rfl, ho8, hj5⟩
      have hk5 := hk4'.trans hj5 (by simp)
      have ho4 := hide (ho4.out.kept hj5 (by simp))
      have ho5 := hide (ho5.out.kept hj5 (by simp))
      have hn5 : n5 ≤ n2 := by have := ho5.out.rd.runs; have := gb3.out; have := hl2.out; omega
      have ho8 := hide (ho8.base hk4'.size)
      have hn4 : n4 ≤ n1 := by have := ho4.out.rd.runs; have := ga3.out; have := hl1.out; omega
      have hn4i : (n4 : Int) ≤ (n1 : Int) := by omega
      have hdn : decide (n1 < n4) = false := decide_eq_false (by omega)
      have rV := ho4.out.rd
      go_wp2_with fail
      refine (hVa.out a4 n4 c4 w5 hk5 rV (by omega)).mono ?_
      rintro e w6 ⟨rfl, hj6⟩
      have hk6 := hk5.trans hj6 (by simp)
      go_wp2_with fail
      refine (hCa.out a4 n4 c4 w6 hk6 (rV.kept hj6 (by simp)) (by omega)).mono ?_
      rintro e w7 ⟨rfl, hj7⟩
      have hk7 := hk6.trans hj7 (by simp)
      go_wp2_with fail
      refine (hUa.out a4 n4 c4 w7 hk7 ((rV.kept hj6 (by simp)).kept hj7 (by simp)) (by omega) (hH1.out.kept hk7 (by simp))).mono ?_
      rintro e w8 ⟨rfl, hj8⟩
      have hk8 := hk7.trans hj8 (by simp)
      go_wp2_with fail
      refine (hJ.out a4 n4 c4 a5 n5 c5 a8 n8 c8 w8 hk8 (((rV.kept hj6 (by simp)).kept hj7 (by simp)).kept hj8 (by simp)) (((ho5.out.rd.kept hj6 (by simp)).kept hj7 (by simp)).kept hj8 (by simp)) (by omega) (by omega) (((ho8.out.rd.kept hj6 (by simp)).kept hj7 (by simp)).kept hj8 (by simp))).mono ?_
      rintro e w9 ⟨rfl, hj9⟩
      have hkZ := hk8.trans hj9 (by simp)
      clear hJ hVa hCa hUa hPa hPb hP7 hj6 hj7 hj8 hj9 hk5 hk6 hk7 hk8 hj5 hk4' rV ho4 ho5 ho8
      go_wp2_with fail
      go_loopg [11, 12, 13, 14, 15, 16, 93, 94, 95, 96, 97, 98, 99, 100, 101, 102, 103, 104, 105, 106, 107, 108, 109, 110, 111, 112, 113, 114, 115, 116, 117, 118, 119, 120, 121, 122, 123, 124, 125, 126, 127, 128, 129, 130, 131, 132, 133, 134, 135, 136, 137, 138, 139] n1 (fun kx s11 s12 s13 s14 s15 s16 s93 s94 s95 s96 s97 s98 s99 s100 s101 s102 s103 s104 s105 s106 s107 s108 s109 s110 s111 s112 s113 s114 s115 s116 s117 s118 s119 s120 s121 s122 s123 s124 s125 s126 s127 s128 s129 s130 s131 s132 s133 s134 s135 s136 s137 s138 s139 wr => ∃ (i : Nat), s93 = .int .i64 i ∧ i ≤ n1 ∧ n1 - i ≤ kx ∧ Kept [] w wr)
      case atStart => exact ⟨0, rfl, Nat.zero_le _, by omega, hkZ⟩
      case round =>
        obtain ⟨i, rfl, hi, hgi, hkr⟩ := hrel
        by_cases hlt : i < n1
        · have hil : i < l.length := by rw [hl1.out]; exact hlt
          have hin : (i : Int) < (n1 : Int) := by omega
          go_wp2_with fail
          go_loopg [12, 13, 14, 15, 16, 98, 99, 100, 101, 102, 103, 104, 105, 106, 107, 108, 109, 110, 111, 112, 113, 114, 115, 116, 117, 118, 119, 120, 121, 122, 123, 124, 125, 126, 127, 128, 129, 130, 131, 132, 133, 134, 135, 136, 137, 138] n2 (fun jx s12 s13 s14 s15 s16 s98 s99 s100 s101 s102 s103 s104 s105 s106 s107 s108 s109 s110 s111 s112 s113 s114 s115 s116 s117 s118 s119 s120 s121 s122 s123 s124 s125 s126 s127 s128 s129 s130 s131 s132 s133 s134 s135 s136 s137 s138 wr => ∃ (k : Nat), s98 = .int .i64 k ∧ k ≤ n2 ∧ n2 - k ≤ jx ∧ Kept [] w wr)
          case atStart => exact ⟨0, rfl, Nat.zero_le _, by omega, hkr⟩
          case round =>
            clear hkr
            obtain ⟨k, rfl, hk, hgk, hkr⟩ := hrel
            by_cases hlt2 : k < n2
            · have hkl : k < m.length := by rw [hl2.out]; exact hlt2
              have hkn : (k : Int) < (n2 : Int) := by omega
              obtain ⟨bA, oA, rfl⟩ := hH1.out.addr (fun h => by rw [h] at hil; cases hil)
              obtain ⟨bB, oB, rfl⟩ := hH2.out.addr (fun h => by rw [h] at hkl; cases hkl)
              have r1 := hide (hH1.out.cel i hil)
              have r2 := hide (hH2.out.cel k hkl)
              have hxB := hB1.out l[i] (List.getElem_mem hil)
              have hyB := hB2.out m[k] (List.getElem_mem hkl)
              generalize l[i] = x at *
              generalize m[k] = y at *
              have hWx := hide (fun w1 hk => hWd.out x hxB w1 hk)
              have hWy := hide (fun w1 hk => hWd.out y hyB w1 hk)
              have hEx := hide (show wordsE x = if validC x = true then (wordsC x, 0) else (zeroW, 2) from rfl)
              have hEy := hide (show wordsE y = if validC y = true then (wordsC y, 0) else (zeroW, 2) from rfl)
              generalize wordsE x = Ex at *
              generalize wordsE y = Ey at *
              obtain ⟨x1, x2⟩ := Ex
              obtain ⟨y1, y2⟩ := Ey
              simp only at hWx hWy
              have ra := r1.out.kept hkr (by simp)
              go_wp2_with (refine wpList_load_cel rfl rfl bA (oA + i * 16) rfl ra ?_)
              refine (hWx.out wr hkr).mono ?_
              rintro e v1 ⟨rfl, hj1⟩
              have hk1 := hkr.trans hj1 (by simp)
              clear ra
              have hk1' : Kept [] w (v1.alloc (.cells #[.int .u64 x1.a, .int .u64 x1.b, .int .u64 x1.c] 34)) := hk1.alloc _
              have rb := r2.out.kept hk1' (by simp)
              have hbx : Hid (W3At (v1.alloc (.cells #[.int .u64 x1.a, .int .u64 x1.b, .int .u64 x1.c] 34)) v1.heap.size x1) := hide (W3At.new v1 x1)
              go_wp2_with (refine wpList_load_cel rfl rfl bB (oB + k * 16) rfl rb ?_)
              refine (hWy.out _ hk1').mono ?_
              rintro e v2 ⟨rfl, hj2⟩
              have hk2' : Kept [] w (v2.alloc (.cells #[.int .u64 y1.a, .int .u64 y1.b, .int .u64 y1.c] 34)) := (hk1'.trans hj2 (by simp)).alloc _
              have hbx2 := hide ((hbx.out.kept hj2 (by simp)).kept ((Kept.refl [] v2).alloc (.cells #[.int .u64 y1.a, .int .u64 y1.b, .int .u64 y1.c] 34)) (by simp))
              have hby : Hid (W3At (v2.alloc (.cells #[.int .u64 y1.a, .int .u64 y1.b, .int .u64 y1.c] 34)) v2.heap.size y1) := hide (W3At.new v2 y1)
              clear rb hbx hj1 hj2 hk1 hk1' hWx hWy
              cases hvx : validC x
              · have e2 : x2 = 2 := by have := hEx.out; rw [hvx] at this; simp at this; exact this.2
                subst e2
                go_upto_region 18 with fail
                refine wp_region_held_drew (S := (fun w' => True)) (by kernel_rfl) ?_ (fun hHeld => ?_)
                · (try dsimp only); (first | done | exact trivial)
                refine wpAnyH_take (i := 0) (v := ?_) rfl (by kernel_rfl) (by kernel_rfl) (by kernel_rfl) (fun _ _ _ h => h) (Or.inl ⟨by rfl, ?_⟩) (by assumption) ?_
                rotate_left
                · (intro wq hSw; (try dsimp only at hSw); go_simp; try with_reducible rfl)
                try simp only [Act.put, List.getElem_toArray, List.getElem_cons_zero, List.setIfInBounds_toArray, List.set_cons_zero, List.set_cons_succ]
                refine wpAnyH_take (i := 1) (v := ?_) rfl (by kernel_rfl) (by kernel_rfl) (by kernel_rfl) (fun _ _ _ h => h) (Or.inl ⟨by rfl, ?_⟩) (by assumption) ?_
                rotate_left
                · (intro wq hSw; (try dsimp only at hSw); go_simp; try with_reducible rfl)
                try simp only [Act.put, List.getElem_toArray, List.getElem_cons_succ, List.getElem_cons_zero, List.setIfInBounds_toArray, List.set_cons_zero, List.set_cons_succ]
                refine wpAnyH_take (i := 2) (v := ?_) rfl (by kernel_rfl) (by kernel_rfl) (by kernel_rfl) (fun _ _ _ h => h) (Or.inl ⟨by rfl, ?_⟩) (by assumption) ?_
                rotate_left
                · (intro wq hSw; (try dsimp only at hSw); go_simp; try with_reducible rfl)
                try simp only [Act.put, List.getElem_toArray, List.getElem_cons_succ, List.getElem_cons_zero, List.setIfInBounds_toArray, List.set_cons_zero, List.set_cons_succ]
                refine wpAnyH_take (i := 3) (v := undef) rfl (by kernel_rfl) (by kernel_rfl) (by kernel_rfl) (fun _ _ _ h => h) (Or.inr ⟨by rfl, rfl⟩) (by assumption) ?_
                try simp only [Act.put, List.getElem_toArray, List.getElem_cons_succ, List.getElem_cons_zero, List.setIfInBounds_toArray, List.set_cons_zero, List.set_cons_succ]
                refine wpAnyH_take (i := 4) (v := undef) rfl (by kernel_rfl) (by kernel_rfl) (by kernel_rfl) (fun _ _ _ h => h) (Or.inr ⟨by rfl, rfl⟩) (by assumption) ?_
                try simp only [Act.put, List.getElem_toArray, List.getElem_cons_succ, List.getElem_cons_zero, List.setIfInBounds_toArray, List.set_cons_zero, List.set_cons_succ]
                refine wpAnyH_take (i := 5) (v := ?_) rfl (by kernel_rfl) (by kernel_rfl) (by kernel_rfl) (fun _ _ _ h => h) (Or.inl ⟨by rfl, ?_⟩) (by assumption) ?_
                rotate_left
                · (intro wq hSw; (try dsimp only at hSw); go_simp; try with_reducible rfl)
                try simp only [Act.put, List.getElem_toArray, List.getElem_cons_succ, List.getElem_cons_zero, List.setIfInBounds_toArray, List.set_cons_zero, List.set_cons_succ]
                refine wpAnyH_take (i := 6) (v := ?_) rfl (by kernel_rfl) (by kernel_rfl) (by kernel_rfl) (fun _ _ _ h => h) (Or.inl ⟨by rfl, ?_⟩) (by assumption) ?_
                rotate_left
                · (intro wq hSw; (try dsimp only at hSw); go_simp; try with_reducible rfl)
                try simp only [Act.put, List.getElem_toArray, List.getElem_cons_succ, List.getElem_cons_zero, List.setIfInBounds_toArray, List.set_cons_zero, List.set_cons_succ]
                refine wpAnyH_take (i := 7) (v := undef) rfl (by kernel_rfl) (by kernel_rfl) (by kernel_rfl) (fun _ _ _ h => h) (Or.inr ⟨by rfl, rfl⟩) (by assumption) ?_
                try simp only [Act.put, List.getElem_toArray, List.getElem_cons_succ, List.getElem_cons_zero, List.setIfInBounds_toArray, List.set_cons_zero, List.set_cons_succ]
                refine wpAnyH_take (i := 8) (v := undef) rfl (by kernel_rfl) (by kernel_rfl) (by kernel_rfl) (fun _ _ _ h => h) (Or.inr ⟨by rfl, rfl⟩) (by assumption) ?_
                try simp only [Act.put, List.getElem_toArray, List.getElem_cons_succ, List.getElem_cons_zero, List.setIfInBounds_toArray, List.set_cons_zero, List.set_cons_succ]
                refine wpAnyH_take (i := 9) (v := undef) rfl (by kernel_rfl) (by kernel_rfl) (by kernel_rfl) (fun _ _ _ h => h) (Or.inr ⟨by rfl, rfl⟩) (by assumption) ?_
                try simp only [Act.put, List.getElem_toArray, List.getElem_cons_succ, List.getElem_cons_zero, List.setIfInBounds_toArray, List.set_cons_zero, List.set_cons_succ]
                refine wpAnyH_take (i := 10) (v := undef) rfl (by kernel_rfl) (by kernel_rfl) (by kernel_rfl) (fun _ _ _ h => h) (Or.inr ⟨by rfl, rfl⟩) (by assumption) ?_
                try simp only [Act.put, List.getElem_toArray, List.getElem_cons_succ, List.getElem_cons_zero, List.setIfInBounds_toArray, List.set_cons_zero, List.set_cons_succ]
                refine wpAnyH_take (i := 11) (v := undef) rfl (by kernel_rfl) (by kernel_rfl) (by kernel_rfl) (fun _ _ _ h => h) (Or.inr ⟨by rfl, rfl⟩) (by assumption) ?_
                try simp only [Act.put, List.getElem_toArray, List.getElem_cons_succ, List.getElem_cons_zero, List.setIfInBounds_toArray, List.set_cons_zero, List.set_cons_succ]
                refine wpAnyH_take (i := 12) (v := undef) rfl (by kernel_rfl) (by kernel_rfl) (by kernel_rfl) (fun _ _ _ h => h) (Or.inr ⟨by rfl, rfl⟩) (by assumption) ?_
                try simp only [Act.put, List.getElem_toArray, List.getElem_cons_succ, List.getElem_cons_zero, List.setIfInBounds_toArray, List.set_cons_zero, List.set_cons_succ]
                refine wpAnyH_take (i := 13) (v := undef) rfl (by kernel_rfl) (by kernel_rfl) (by kernel_rfl) (fun _ _ _ h => h) (Or.inr ⟨by rfl, rfl⟩) (by assumption) ?_
                try simp only [Act.put, List.getElem_toArray, List.getElem_cons_succ, List.getElem_cons_zero, List.setIfInBounds_toArray, List.set_cons_zero, List.set_cons_succ]
                refine wpAnyH_take (i := 14) (v := undef) rfl (by kernel_rfl) (by kernel_rfl) (by kernel_rfl) (fun _ _ _ h => h) (Or.inr ⟨by rfl, rfl⟩) (by assumption) ?_
                try simp only [Act.put, List.getElem_toArray, List.getElem_cons_succ, List.getElem_cons_zero, List.setIfInBounds_toArray, List.set_cons_zero, List.set_cons_succ]
                refine wpAnyH_take (i := 15) (v := undef) rfl (by kernel_rfl) (by kernel_rfl) (by kernel_rfl) (fun _ _ _ h => h) (Or.inr ⟨by rfl, rfl⟩) (by assumption) ?_
                try simp only [Act.put, List.getElem_toArray, List.getElem_cons_succ, List.getElem_cons_zero, List.setIfInBounds_toArray, List.set_cons_zero, List.set_cons_succ]
                refine wpAnyH_take (i := 16) (v := undef) rfl (by kernel_rfl) (by kernel_rfl) (by kernel_rfl) (fun _ _ _ h => h) (Or.inr ⟨by rfl, rfl⟩) (by assumption) ?_
                try simp only [Act.put, List.getElem_toArray, List.getElem_cons_succ, List.getElem_cons_zero, List.setIfInBounds_toArray, List.set_cons_zero, List.set_cons_succ]
                refine wpAnyH_take (i := 17) (v := undef) rfl (by kernel_rfl) (by kernel_rfl) (by kernel_rfl) (fun _ _ _ h => h) (Or.inr ⟨by rfl, rfl⟩) (by assumption) ?_
                try simp only [Act.put, List.getElem_toArray, List.getElem_cons_succ, List.getElem_cons_zero, List.setIfInBounds_toArray, List.set_cons_zero, List.set_cons_succ]
                refine wpAnyH_take (i := 18) (v := undef) rfl (by kernel_rfl) (by kernel_rfl) (by kernel_rfl) (fun _ _ _ h => h) (Or.inr ⟨by rfl, rfl⟩) (by assumption) ?_
                try simp only [Act.put, List.getElem_toArray, List.getElem_cons_succ, List.getElem_cons_zero, List.setIfInBounds_toArray, List.set_cons_zero, List.set_cons_succ]
                refine wpAnyH_take (i := 19) (v := undef) rfl (by kernel_rfl) (by kernel_rfl) (by kernel_rfl) (fun _ _ _ h => h) (Or.inr ⟨by rfl, rfl⟩) (by assumption) ?_
                try simp only [Act.put, List.getElem_toArray, List.getElem_cons_succ, List.getElem_cons_zero, List.setIfInBounds_toArray, List.set_cons_zero, List.set_cons_succ]
                refine wpAnyH_take (i := 20) (v := ?_) rfl (by kernel_rfl) (by kernel_rfl) (by kernel_rfl) (fun _ _ _ h => h) (Or.inl ⟨by rfl, ?_⟩) (by assumption) ?_
                rotate_left
                · (intro wq hSw; (try dsimp only at hSw); go_simp; try with_reducible rfl)
                try simp only [Act.put, List.getElem_toArray, List.getElem_cons_succ, List.getElem_cons_zero, List.setIfInBounds_toArray, List.set_cons_zero, List.set_cons_succ]
                refine wpAnyH_done (by kernel_rfl) ?_ _
                go_wp2_with fail
                go_roundg (n2 - (k + 1))
                case measure => omega
                case rel => exact ⟨k + 1, by push_cast; rfl, by omega, Nat.le_refl _, hk2'.drew⟩
              · have ex2 := hEx.out
                rw [hvx] at ex2
                simp at ex2
                obtain ⟨ex1, ex2⟩ := ex2
                subst ex2
                cases hvy : validC y
                · have e2 : y2 = 2 := by have := hEy.out; rw [hvy] at this; simp at this; exact this.2
                  subst e2
                  go_upto_region 18 with fail
                  refine wp_region_held_drew (S := (fun w' => True)) (by kernel_rfl) ?_ (fun hHeld => ?_)
                  · (try dsimp only); (first | done | exact trivial)
                  refine wpAnyH_take (i := 0) (v := ?_) rfl (by kernel_rfl) (by kernel_rfl) (by kernel_rfl) (fun _ _ _ h => h) (Or.inl ⟨by rfl, ?_⟩) (by assumption) ?_
                  rotate_left
                  · (intro wq hSw; (try dsimp only at hSw); go_simp; try with_reducible rfl)
                  try simp only [Act.put, List.getElem_toArray, List.getElem_cons_zero, List.setIfInBounds_toArray, List.set_cons_zero, List.set_cons_succ]
                  refine wpAnyH_take (i := 1) (v := ?_) rfl (by kernel_rfl) (by kernel_rfl) (by kernel_rfl) (fun _ _ _ h => h) (Or.inl ⟨by rfl, ?_⟩) (by assumption) ?_
                  rotate_left
                  · (intro wq hSw; (try dsimp only at hSw); go_simp; try with_reducible rfl)
                  try simp only [Act.put, List.getElem_toArray, List.getElem_cons_succ, List.getElem_cons_zero, List.setIfInBounds_toArray, List.set_cons_zero, List.set_cons_succ]
                  refine wpAnyH_take (i := 2) (v := ?_) rfl (by kernel_rfl) (by kernel_rfl) (by kernel_rfl) (fun _ _ _ h => h) (Or.inl ⟨by rfl, ?_⟩) (by assumption) ?_
                  rotate_left
                  · (intro wq hSw; (try dsimp only at hSw); go_simp; try with_reducible rfl)
                  try simp only [Act.put, List.getElem_toArray, List.getElem_cons_succ, List.getElem_cons_zero, List.setIfInBounds_toArray, List.set_cons_zero, List.set_cons_succ]
                  refine wpAnyH_take (i := 3) (v := ?_) rfl (by kernel_rfl) (by kernel_rfl) (by kernel_rfl) (fun _ _ _ h => h) (Or.inl ⟨by rfl, ?_⟩) (by assumption) ?_
                  rotate_left
                  · (intro wq hSw; (try dsimp only at hSw); go_simp; try with_reducible rfl)
                  try simp only [Act.put, List.getElem_toArray, List.getElem_cons_succ, List.getElem_cons_zero, List.setIfInBounds_toArray, List.set_cons_zero, List.set_cons_succ]
                  refine wpAnyH_take (i := 4) (v := ?_) rfl (by kernel_rfl) (by kernel_rfl) (by kernel_rfl) (fun _ _ _ h => h) (Or.inl ⟨by rfl, ?_⟩) (by assumption) ?_
                  rotate_left
                  · (intro wq hSw; (try dsimp only at hSw); go_simp; try with_reducible rfl)
                  try simp only [Act.put, List.getElem_toArray, List.getElem_cons_succ, List.getElem_cons_zero, List.setIfInBounds_toArray, List.set_cons_zero, List.set_cons_succ]
                  refine wpAnyH_take (i := 5) (v := ?_) rfl (by kernel_rfl) (by kernel_rfl) (by kernel_rfl) (fun _ _ _ h => h) (Or.inl ⟨by rfl, ?_⟩) (by assumption) ?_
                  rotate_left
                  · (intro wq hSw; (try dsimp only at hSw); go_simp; try with_reducible rfl)
                  try simp only [Act.put, List.getElem_toArray, List.getElem_cons_succ, List.getElem_cons_zero, List.setIfInBounds_toArray, List.set_cons_zero, List.set_cons_succ]
                  refine wpAnyH_take (i := 6) (v := ?_) rfl (by kernel_rfl) (by kernel_rfl) (by kernel_rfl) (fun _ _ _ h => h) (Or.inl ⟨by rfl, ?_⟩) (by assumption) ?_
                  rotate_left
                  · (intro wq hSw; (try dsimp only at hSw); go_simp; try with_reducible rfl)
                  try simp only [Act.put, List.getElem_toArray, List.getElem_cons_succ, List.getElem_cons_zero, List.setIfInBounds_toArray, List.set_cons_zero, List.set_cons_succ]
                  refine wpAnyH_take (i := 7) (v := undef) rfl (by kernel_rfl) (by kernel_rfl) (by kernel_rfl) (fun _ _ _ h => h) (Or.inr ⟨by rfl, rfl⟩) (by assumption) ?_
                  try simp only [Act.put, List.getElem_toArray, List.getElem_cons_succ, List.getElem_cons_zero, List.setIfInBounds_toArray, List.set_cons_zero, List.set_cons_succ]
                  refine wpAnyH_take (i := 8) (v := undef) rfl (by kernel_rfl) (by kernel_rfl) (by kernel_rfl) (fun _ _ _ h => h) (Or.inr ⟨by rfl, rfl⟩) (by assumption) ?_
                  try simp only [Act.put, List.getElem_toArray, List.getElem_cons_succ, List.getElem_cons_zero, List.setIfInBounds_toArray, List.set_cons_zero, List.set_cons_succ]
                  refine wpAnyH_take (i := 9) (v := undef) rfl (by kernel_rfl) (by kernel_rfl) (by kernel_rfl) (fun _ _ _ h => h) (Or.inr ⟨by rfl, rfl⟩) (by assumption) ?_
                  try simp only [Act.put, List.getElem_toArray, List.getElem_cons_succ, List.getElem_cons_zero, List.setIfInBounds_toArray, List.set_cons_zero, List.set_cons_succ]
                  refine wpAnyH_take (i := 10) (v := undef) rfl (by kernel_rfl) (by kernel_rfl) (by kernel_rfl) (fun _ _ _ h => h) (Or.inr ⟨by rfl, rfl⟩) (by assumption) ?_
                  try simp only [Act.put, List.getElem_toArray, List.getElem_cons_succ, List.getElem_cons_zero, List.setIfInBounds_toArray, List.set_cons_zero, List.set_cons_succ]
                  refine wpAnyH_take (i := 11) (v := undef) rfl (by kernel_rfl) (by kernel_rfl) (by kernel_rfl) (fun _ _ _ h => h) (Or.inr ⟨by rfl, rfl⟩) (by assumption) ?_
                  try simp only [Act.put, List.getElem_toArray, List.getElem_cons_succ, List.getElem_cons_zero, List.setIfInBounds_toArray, List.set_cons_zero, List.set_cons_succ]
                  refine wpAnyH_take (i := 12) (v := undef) rfl (by kernel_rfl) (by kernel_rfl) (by kernel_rfl) (fun _ _ _ h => h) (Or.inr ⟨by rfl, rfl⟩) (by assumption) ?_
                  try simp only [Act.put, List.getElem_toArray, List.getElem_cons_succ, List.getElem_cons_zero, List.setIfInBounds_toArray, List.set_cons_zero, List.set_cons_succ]
                  refine wpAnyH_take (i := 13) (v := undef) rfl (by kernel_rfl) (by kernel_rfl) (by kernel_rfl) (fun _ _ _ h => h) (Or.inr ⟨by rfl, rfl⟩) (by assumption) ?_
                  try simp only [Act.put, List.getElem_toArray, List.getElem_cons_succ, List.getElem_cons_zero, List.setIfInBounds_toArray, List.set_cons_zero, List.set_cons_succ]
                  refine wpAnyH_take (i := 14) (v := undef) rfl (by kernel_rfl) (by kernel_rfl) (by kernel_rfl) (fun _ _ _ h => h) (Or.inr ⟨by rfl, rfl⟩) (by assumption) ?_
                  try simp only [Act.put, List.getElem_toArray, List.getElem_cons_succ, List.getElem_cons_zero, List.setIfInBounds_toArray, List.set_cons_zero, List.set_cons_succ]
                  refine wpAnyH_take (i := 15) (v := undef) rfl (by kernel_rfl) (by kernel_rfl) (by kernel_rfl) (fun _ _ _ h => h) (Or.inr ⟨by rfl, rfl⟩) (by assumption) ?_
                  try simp only [Act.put, List.getElem_toArray, List.getElem_cons_succ, List.getElem_cons_zero, List.setIfInBounds_toArray, List.set_cons_zero, List.set_cons_succ]
                  refine wpAnyH_take (i := 16) (v := undef) rfl (by kernel_rfl) (by kernel_rfl) (by kernel_rfl) (fun _ _ _ h => h) (Or.inr ⟨by rfl, rfl⟩) (by assumption) ?_
                  try simp only [Act.put, List.getElem_toArray, List.getElem_cons_succ, List.getElem_cons_zero, List.setIfInBounds_toArray, List.set_cons_zero, List.set_cons_succ]
                  refine wpAnyH_take (i := 17) (v := undef) rfl (by kernel_rfl) (by kernel_rfl) (by kernel_rfl) (fun _ _ _ h => h) (Or.inr ⟨by rfl, rfl⟩) (by assumption) ?_
                  try simp only [Act.put, List.getElem_toArray, List.getElem_cons_succ, List.getElem_cons_zero, List.setIfInBounds_toArray, List.set_cons_zero, List.set_cons_succ]
                  refine wpAnyH_take (i := 18) (v := undef) rfl (by kernel_rfl) (by kernel_rfl) (by kernel_rfl) (fun _ _ _ h => h) (Or.inr ⟨by rfl, rfl⟩) (by assumption) ?_
                  try simp only [Act.put, List.getElem_toArray, List.getElem_cons_succ, List.getElem_cons_zero, List.setIfInBounds_toArray, List.set_cons_zero, List.set_cons_succ]
                  refine wpAnyH_take (i := 19) (v := undef) rfl (by kernel_rfl) (by kernel_rfl) (by kernel_rfl) (fun _ _ _ h => h) (Or.inr ⟨by rfl, rfl⟩) (by assumption) ?_
                  try simp only [Act.put, List.getElem_toArray, List.getElem_cons_succ, List.getElem_cons_zero, List.setIfInBounds_toArray, List.set_cons_zero, List.set_cons_succ]
                  refine wpAnyH_take (i := 20) (v := ?_) rfl (by kernel_rfl) (by kernel_rfl) (by kernel_rfl) (fun _ _ _ h => h) (Or.inl ⟨by rfl, ?_⟩) (by assumption) ?_
                  rotate_left
                  · (intro wq hSw; (try dsimp only at hSw); go_simp; try with_reducible rfl)
                  try simp only [Act.put, List.getElem_toArray, List.getElem_cons_succ, List.getElem_cons_zero, List.setIfInBounds_toArray, List.set_cons_zero, List.set_cons_succ]
                  refine wpAnyH_done (by kernel_rfl) ?_ _
                  go_wp2_with fail
                  go_roundg (n2 - (k + 1))
                  case measure => omega
                  case rel => exact ⟨k + 1, by push_cast; rfl, by omega, Nat.le_refl _, hk2'.drew⟩
                · have ey2 := hEy.out
                  rw [hvy] at ey2
                  simp at ey2
                  obtain ⟨ey1, ey2⟩ := ey2
                  subst ey2
                  obtain ⟨z, hz⟩ : ∃ z, z = decide (x = y) := ⟨_, rfl⟩
                  have hzw : decide (x1 = y1) = z := by
                    rw [hz, decide_eq_decide, ex1, ey1]
                    exact ⟨fun h => words_inj hvx hxB hvy hyB h, fun h => by rw [h]⟩
                  have hq1 : ∀ w, (binOp .eql 34 (.agg #[.int .u64 x1.a, .int .u64 x1.b, .int .u64 x1.c]) (.agg #[.int .u64 y1.a, .int .u64 y1.b, .int .u64 y1.c])).run Tryd.prog w = .ok (.bool z) w := fun w => (eql_W x1 y1 w).trans (by rw [hzw])
                  have hq2 : ∀ w, (binOp .eql 30 (.agg #[.int .i32 x.r, .int .i32 x.m0, .int .i32 x.m1, .int .i32 x.m2, .int .i64 x.w, .int .i64 x.p.f.k, .int .u8 x.p.f.i, .int .u8 x.p.f.r, .int .u8 x.p.f.g, .int .u8 x.p.f.b, .int .i64 x.p.b.k, .int .u8 x.p.b.i, .int .u8 x.p.b.r, .int .u8 x.p.b.g, .int .u8 x.p.b.b, .int .u8 x.p.fl]) (.agg #[.int .i32 y.r, .int .i32 y.m0, .int .i32 y.m1, .int .i32 y.m2, .int .i64 y.w, .int .i64 y.p.f.k, .int .u8 y.p.f.i, .int .u8 y.p.f.r, .int .u8 y.p.f.g, .int .u8 y.p.f.b, .int .i64 y.p.b.k, .int .u8 y.p.b.i, .int .u8 y.p.b.r, .int .u8 y.p.b.g, .int .u8 y.p.b.b, .int .u8 y.p.fl])).run Tryd.prog w = .ok (.bool z) w := fun w => (eql_K x y w).trans (by rw [hz])
                  clear hz hzw ex1 ey1 hEx hEy hvx hvy
                  have ra := (r1.out.kept hk2' (by simp)).kept ((Kept.refl [] _).drew) (by simp)
                  have rb := (r2.out.kept hk2' (by simp)).kept ((Kept.refl [] _).drew) (by simp)
                  have rx := hbx2.out.kept ((Kept.refl [] _).drew) (by simp)
                  have ry := hby.out.kept ((Kept.refl [] _).drew) (by simp)
                  cases z <;>
                  (go_upto_region 18 with fail
                   refine wp_region_held_drew (S := (fun w' => CelR w' bA (oA + i * 16) x ∧ CelR w' bB (oB + k * 16) y ∧ (w'.cell? ⟨v1.heap.size, 0, none⟩ = some (.int .u64 x1.a) ∧ w'.cell? ⟨v1.heap.size, 1, none⟩ = some (.int .u64 x1.b) ∧ w'.cell? ⟨v1.heap.size, 2, none⟩ = some (.int .u64 x1.c)) ∧ w'.cell? ⟨v2.heap.size, 0, none⟩ = some (.int .u64 y1.a) ∧ w'.cell? ⟨v2.heap.size, 1, none⟩ = some (.int .u64 y1.b) ∧ w'.cell? ⟨v2.heap.size, 2, none⟩ = some (.int .u64 y1.c))) (by kernel_rfl) ?_ (fun hHeld => ?_)
                   · exact ⟨ra, rb, rx, ry⟩
                   refine wpAnyH_take (i := 0) (v := ?_) rfl (by kernel_rfl) (by kernel_rfl) (by kernel_rfl) (fun _ _ _ h => h) (Or.inl ⟨by rfl, ?_⟩) (by assumption) ?_
                   rotate_left
                   · (intro wq hSw; (try dsimp only at hSw); go_simp; try with_reducible rfl)
                   try simp only [Act.put, List.getElem_toArray, List.getElem_cons_zero, List.setIfInBounds_toArray, List.set_cons_zero, List.set_cons_succ]
                   refine wpAnyH_take (i := 1) (v := ?_) rfl (by kernel_rfl) (by kernel_rfl) (by kernel_rfl) (fun _ _ _ h => h) (Or.inl ⟨by rfl, ?_⟩) (by assumption) ?_
                   rotate_left
                   · (intro wq hSw; (try dsimp only at hSw); go_simp; try with_reducible rfl)
                   try simp only [Act.put, List.getElem_toArray, List.getElem_cons_succ, List.getElem_cons_zero, List.setIfInBounds_toArray, List.set_cons_zero, List.set_cons_succ]
                   refine wpAnyH_take (i := 2) (v := ?_) rfl (by kernel_rfl) (by kernel_rfl) (by kernel_rfl) (fun _ _ _ h => h) (Or.inl ⟨by rfl, ?_⟩) (by assumption) ?_
                   rotate_left
                   · (intro wq hSw; (try dsimp only at hSw); go_simp; try with_reducible rfl)
                   try simp only [Act.put, List.getElem_toArray, List.getElem_cons_succ, List.getElem_cons_zero, List.setIfInBounds_toArray, List.set_cons_zero, List.set_cons_succ]
                   refine wpAnyH_take (i := 3) (v := ?_) rfl (by kernel_rfl) (by kernel_rfl) (by kernel_rfl) (fun _ _ _ h => h) (Or.inl ⟨by rfl, ?_⟩) (by assumption) ?_
                   rotate_left
                   · (intro wq hSw; (try dsimp only at hSw); go_simp; try with_reducible rfl)
                   try simp only [Act.put, List.getElem_toArray, List.getElem_cons_succ, List.getElem_cons_zero, List.setIfInBounds_toArray, List.set_cons_zero, List.set_cons_succ]
                   refine wpAnyH_take (i := 4) (v := ?_) rfl (by kernel_rfl) (by kernel_rfl) (by kernel_rfl) (fun _ _ _ h => h) (Or.inl ⟨by rfl, ?_⟩) (by assumption) ?_
                   rotate_left
                   · (intro wq hSw; (try dsimp only at hSw); go_simp; try with_reducible rfl)
                   try simp only [Act.put, List.getElem_toArray, List.getElem_cons_succ, List.getElem_cons_zero, List.setIfInBounds_toArray, List.set_cons_zero, List.set_cons_succ]
                   refine wpAnyH_take (i := 5) (v := ?_) rfl (by kernel_rfl) (by kernel_rfl) (by kernel_rfl) (fun _ _ _ h => h) (Or.inl ⟨by rfl, ?_⟩) (by assumption) ?_
                   rotate_left
                   · (intro wq hSw; (try dsimp only at hSw); go_simp; try with_reducible rfl)
                   try simp only [Act.put, List.getElem_toArray, List.getElem_cons_succ, List.getElem_cons_zero, List.setIfInBounds_toArray, List.set_cons_zero, List.set_cons_succ]
                   refine wpAnyH_take (i := 6) (v := ?_) rfl (by kernel_rfl) (by kernel_rfl) (by kernel_rfl) (fun _ _ _ h => h) (Or.inl ⟨by rfl, ?_⟩) (by assumption) ?_
                   rotate_left
                   · (intro wq hSw; (try dsimp only at hSw); go_simp; try with_reducible rfl)
                   try simp only [Act.put, List.getElem_toArray, List.getElem_cons_succ, List.getElem_cons_zero, List.setIfInBounds_toArray, List.set_cons_zero, List.set_cons_succ]
                   refine wpAnyH_take (i := 7) (v := ?_) rfl (by kernel_rfl) (by kernel_rfl) (by kernel_rfl) (fun _ _ _ h => h) (Or.inl ⟨by rfl, ?_⟩) (by assumption) ?_
                   rotate_left
                   · (intro wq hSw; (try dsimp only at hSw); go_simp; try with_reducible rfl)
                   try simp only [Act.put, List.getElem_toArray, List.getElem_cons_succ, List.getElem_cons_zero, List.setIfInBounds_toArray, List.set_cons_zero, List.set_cons_succ]
                   refine wpAnyH_take (i := 8) (v := ?_) rfl (by kernel_rfl) (by kernel_rfl) (by kernel_rfl) (fun _ _ _ h => h) (Or.inl ⟨by rfl, ?_⟩) (by assumption) ?_
                   rotate_left
                   · (intro wq hSw; (try dsimp only at hSw); go_simp; try with_reducible rfl)
                   try simp only [Act.put, List.getElem_toArray, List.getElem_cons_succ, List.getElem_cons_zero, List.setIfInBounds_toArray, List.set_cons_zero, List.set_cons_succ]
                   refine wpAnyH_take (i := 9) (v := ?_) rfl (by kernel_rfl) (by kernel_rfl) (by kernel_rfl) (fun _ _ _ h => h) (Or.inl ⟨by rfl, ?_⟩) (by assumption) ?_
                   rotate_left
                   · (intro wq hSw; (try dsimp only at hSw); go_simp; try with_reducible rfl)
                   try simp only [Act.put, List.getElem_toArray, List.getElem_cons_succ, List.getElem_cons_zero, List.setIfInBounds_toArray, List.set_cons_zero, List.set_cons_succ]
                   refine wpAnyH_take (i := 10) (v := ?_) rfl (by kernel_rfl) (by kernel_rfl) (by kernel_rfl) (fun _ _ _ h => h) (Or.inl ⟨by rfl, ?_⟩) (by assumption) ?_
                   rotate_left
                   · (intro wq hSw; (try dsimp only at hSw); go_simp; try with_reducible rfl)
                   try simp only [Act.put, List.getElem_toArray, List.getElem_cons_succ, List.getElem_cons_zero, List.setIfInBounds_toArray, List.set_cons_zero, List.set_cons_succ]
                   refine wpAnyH_take (i := 11) (v := ?_) rfl (by kernel_rfl) (by kernel_rfl) (by kernel_rfl) (fun _ _ _ h => h) (Or.inl ⟨by rfl, ?_⟩) (by assumption) ?_
                   rotate_left
                   · (intro wq hSw; (try dsimp only at hSw); go_simp; try with_reducible rfl)
                   try simp only [Act.put, List.getElem_toArray, List.getElem_cons_succ, List.getElem_cons_zero, List.setIfInBounds_toArray, List.set_cons_zero, List.set_cons_succ]
                   refine wpAnyH_take (i := 12) (v := ?_) rfl (by kernel_rfl) (by kernel_rfl) (by kernel_rfl) (fun _ _ _ h => h) (Or.inl ⟨by rfl, ?_⟩) (by assumption) ?_
                   rotate_left
                   · (intro wq hSw; (try dsimp only at hSw); go_simp; try with_reducible rfl)
                   try simp only [Act.put, List.getElem_toArray, List.getElem_cons_succ, List.getElem_cons_zero, List.setIfInBounds_toArray, List.set_cons_zero, List.set_cons_succ]
                   refine wpAnyH_take (i := 13) (v := .agg #[.int .i32 x.r, .int .i32 x.m0, .int .i32 x.m1, .int .i32 x.m2, .int .i64 x.w, .int .i64 x.p.f.k, .int .u8 x.p.f.i, .int .u8 x.p.f.r, .int .u8 x.p.f.g, .int .u8 x.p.f.b, .int .i64 x.p.b.k, .int .u8 x.p.b.i, .int .u8 x.p.b.r, .int .u8 x.p.b.g, .int .u8 x.p.b.b, .int .u8 x.p.fl]) rfl (by kernel_rfl) (by kernel_rfl) (by kernel_rfl) (fun _ _ _ h => h) (yieldsIf_load_mid (by rfl) 30 _ rfl bA (oA + i * 16) rfl (kcL x) _ (fun _ h => h.1) Tryd.underlying30 rfl (by kernel_rfl)) (by assumption) ?_
                   try simp only [Act.put, List.getElem_toArray, List.getElem_cons_succ, List.getElem_cons_zero, List.setIfInBounds_toArray, List.set_cons_zero, List.set_cons_succ]
                   refine wpAnyH_take (i := 14) (v := ?_) rfl (by kernel_rfl) (by kernel_rfl) (by kernel_rfl) (fun _ _ _ h => h) (Or.inl ⟨by rfl, ?_⟩) (by assumption) ?_
                   rotate_left
                   · (intro wq hSw; (try dsimp only at hSw); go_simp; try with_reducible rfl)
                   try simp only [Act.put, List.getElem_toArray, List.getElem_cons_succ, List.getElem_cons_zero, List.setIfInBounds_toArray, List.set_cons_zero, List.set_cons_succ]
                   refine wpAnyH_take (i := 15) (v := ?_) rfl (by kernel_rfl) (by kernel_rfl) (by kernel_rfl) (fun _ _ _ h => h) (Or.inl ⟨by rfl, ?_⟩) (by assumption) ?_
                   rotate_left
                   · (intro wq hSw; (try dsimp only at hSw); go_simp; try with_reducible rfl)
                   try simp only [Act.put, List.getElem_toArray, List.getElem_cons_succ, List.getElem_cons_zero, List.setIfInBounds_toArray, List.set_cons_zero, List.set_cons_succ]
                   refine wpAnyH_take (i := 16) (v := ?_) rfl (by kernel_rfl) (by kernel_rfl) (by kernel_rfl) (fun _ _ _ h => h) (Or.inl ⟨by rfl, ?_⟩) (by assumption) ?_
                   rotate_left
                   · (intro wq hSw; (try dsimp only at hSw); go_simp; try with_reducible rfl)
                   try simp only [Act.put, List.getElem_toArray, List.getElem_cons_succ, List.getElem_cons_zero, List.setIfInBounds_toArray, List.set_cons_zero, List.set_cons_succ]
                   refine wpAnyH_take (i := 17) (v := .agg #[.int .i32 y.r, .int .i32 y.m0, .int .i32 y.m1, .int .i32 y.m2, .int .i64 y.w, .int .i64 y.p.f.k, .int .u8 y.p.f.i, .int .u8 y.p.f.r, .int .u8 y.p.f.g, .int .u8 y.p.f.b, .int .i64 y.p.b.k, .int .u8 y.p.b.i, .int .u8 y.p.b.r, .int .u8 y.p.b.g, .int .u8 y.p.b.b, .int .u8 y.p.fl]) rfl (by kernel_rfl) (by kernel_rfl) (by kernel_rfl) (fun _ _ _ h => h) (yieldsIf_load_mid (by rfl) 30 _ rfl bB (oB + k * 16) rfl (kcL y) _ (fun _ h => h.2.1) Tryd.underlying30 rfl (by kernel_rfl)) (by assumption) ?_
                   try simp only [Act.put, List.getElem_toArray, List.getElem_cons_succ, List.getElem_cons_zero, List.setIfInBounds_toArray, List.set_cons_zero, List.set_cons_succ]
                   refine wpAnyH_take (i := 18) (v := ?_) rfl (by kernel_rfl) (by kernel_rfl) (by kernel_rfl) (fun _ _ _ h => h) (Or.inl ⟨by rfl, ?_⟩) (by assumption) ?_
                   rotate_left
                   · (intro wq hSw; (try dsimp only at hSw); go_simp; try with_reducible rfl)
                   try simp only [Act.put, List.getElem_toArray, List.getElem_cons_succ, List.getElem_cons_zero, List.setIfInBounds_toArray, List.set_cons_zero, List.set_cons_succ]
                   refine wpAnyH_take (i := 19) (v := ?_) rfl (by kernel_rfl) (by kernel_rfl) (by kernel_rfl) (fun _ _ _ h => h) (Or.inl ⟨by rfl, ?_⟩) (by assumption) ?_
                   rotate_left
                   · (intro wq hSw; (try dsimp only at hSw); go_simp; try with_reducible rfl)
                   try simp only [Act.put, List.getElem_toArray, List.getElem_cons_succ, List.getElem_cons_zero, List.setIfInBounds_toArray, List.set_cons_zero, List.set_cons_succ]
                   refine wpAnyH_take (i := 20) (v := ?_) rfl (by kernel_rfl) (by kernel_rfl) (by kernel_rfl) (fun _ _ _ h => h) (Or.inl ⟨by rfl, ?_⟩) (by assumption) ?_
                   rotate_left
                   · (intro wq hSw; (try dsimp only at hSw); go_simp; try with_reducible rfl)
                   try simp only [Act.put, List.getElem_toArray, List.getElem_cons_succ, List.getElem_cons_zero, List.setIfInBounds_toArray, List.set_cons_zero, List.set_cons_succ]
                   refine wpAnyH_done (by kernel_rfl) ?_ _
                   go_wp2_with fail
                   go_roundg (n2 - (k + 1))
                   case measure => omega
                   case rel => exact ⟨k + 1, by push_cast; rfl, by omega, Nat.le_refl _, hk2'.drew⟩)
            · obtain rfl : k = n2 := by omega
              go_wp2_with fail
              go_roundg (n1 - (i + 1))
              case measure => omega
              case rel => exact ⟨i + 1, by push_cast; rfl, by omega, Nat.le_refl _, hkr⟩
        · obtain rfl : i = n1 := by omega
          go_wp2_with fail
          refine (hKN.out wr (hT.out wr hkr)).mono ?_
          rintro e v9 ⟨rfl, hj9⟩
          go_wp2_with fail
          go_ret
          exact ⟨rfl, hkr.trans hj9 (by simp)⟩
    · rw [show packR m = ([], 2) from packR_bad (by omega) hvb] at hPb
      rw [show packR (l ++ m) = ([], 2) from packR_bad (by simp; omega) (fun h => hvb (valid_app.1 h).2)] at hPab
      clear fa1 fa2 fa3 fa4 fa5 hva hvb
      generalize packL l = x at *
      go_enter Tryd.func8, Tryd.ntmps8
      go_wp2_with fail
      refine hPa.out.mono ?_
      rintro e w1 ⟨a4, n4, c4, rfl, ho4, hk1⟩
      go_wp2_with fail
      refine (hPb.out w1 hk1).mono ?_
      rintro e w2 ⟨a5, n5, c5, rfl, ho5, hj2⟩
      have hk2 := hk1.trans hj2 (by simp)
      have ho4 := hide (ho4.kept hj2 (by simp))
      have hs2 := hk2.size
      have q1 := hH1.out.kept hk2 (by simp)
      have q2 := hH2.out.kept hk2 (by simp)
      have o1 := cellsV_one l
      have o2 := cellsV_one m
      go_wp2_with (at_builtin; first
        | (refine wpList_app ?_ rfl elCell rfl rfl ho6 rfl q3 o2 ?p4 ?p5; intro a7 c7 w4 ho7 hk4 hat7)
        | (refine wpList_app ?_ rfl elCell rfl rfl (hw0 w2) rfl q1 o1 ?p2 ?p3; intro a6 c6 w3 ho6 hk3 hat6; rw [Nat.zero_add, List.nil_append] at ho6; have hk3 : Kept [] w2 w3 := hk3; have hs3 := hk3.size; have q3 := q2.kept hk3 (by simp)))
      case p2 => omega
      case p3 => exact hs2
      case p4 => omega
      case p5 => omega
      rw [← cellsV_app] at ho7
      have hk4' : Kept [] w w4 := (hk2.trans hk3 (by simp)).own hk4 (fun g hg => (ho6.ge g hg).1)
      have hP7 := hide (hPab.out a7 (n1 + n2) c7 w4 hk4' ho7.rd (by omega))
      have ho4 := hide ((ho4.out.kept hk3 (by simp)).kept hk4 (fun g hg hg6 => by have h1 := (ho4.out.ge g hg).2; rcases hat6 g hg6 with h2 | h2; cases h2; omega))
      clear q1 q2 q3 o1 o2 ho6 ho7 hk3 hk4 hat6 hat7 hPab
      refine hP7.out.mono ?_
      rintro e w5 ⟨a8, n8, c8, rfl, ho8, hj5⟩
      have hk5 := hk4'.trans hj5 (by simp)
      have ho4 := hide (ho4.out.kept hj5 (by simp))
      have hn4 : n4 ≤ n1 := by have := ho4.out.rd.runs; have := ga3.out; have := hl1.out; omega
      have hn4i : (n4 : Int) ≤ (n1 : Int) := by omega
      have hdn : decide (n1 < n4) = false := decide_eq_false (by omega)
      have rV := ho4.out.rd
      go_wp2_with fail
      refine (hVa.out a4 n4 c4 w5 hk5 rV (by omega)).mono ?_
      rintro e w6 ⟨rfl, hj6⟩
      have hk6 := hk5.trans hj6 (by simp)
      go_wp2_with fail
      refine (hCa.out a4 n4 c4 w6 hk6 (rV.kept hj6 (by simp)) (by omega)).mono ?_
      rintro e w7 ⟨rfl, hj7⟩
      have hk7 := hk6.trans hj7 (by simp)
      go_wp2_with fail
      refine (hUa.out a4 n4 c4 w7 hk7 ((rV.kept hj6 (by simp)).kept hj7 (by simp)) (by omega) (hH1.out.kept hk7 (by simp))).mono ?_
      rintro e w8 ⟨rfl, hj8⟩
      have hk8 := hk7.trans hj8 (by simp)
      have hkZ := hk8
      clear hVa hCa hUa hPa hPb hP7 hj6 hj7 hj8 hk5 hk6 hk7 hk8 hj5 hk4' rV ho4 ho5 ho8
      go_wp2_with fail
      go_loopg [11, 12, 13, 14, 15, 16, 93, 94, 95, 96, 97, 98, 99, 100, 101, 102, 103, 104, 105, 106, 107, 108, 109, 110, 111, 112, 113, 114, 115, 116, 117, 118, 119, 120, 121, 122, 123, 124, 125, 126, 127, 128, 129, 130, 131, 132, 133, 134, 135, 136, 137, 138, 139] n1 (fun kx s11 s12 s13 s14 s15 s16 s93 s94 s95 s96 s97 s98 s99 s100 s101 s102 s103 s104 s105 s106 s107 s108 s109 s110 s111 s112 s113 s114 s115 s116 s117 s118 s119 s120 s121 s122 s123 s124 s125 s126 s127 s128 s129 s130 s131 s132 s133 s134 s135 s136 s137 s138 s139 wr => ∃ (i : Nat), s93 = .int .i64 i ∧ i ≤ n1 ∧ n1 - i ≤ kx ∧ Kept [] w wr)
      case atStart => exact ⟨0, rfl, Nat.zero_le _, by omega, hkZ⟩
      case round =>
        obtain ⟨i, rfl, hi, hgi, hkr⟩ := hrel
        by_cases hlt : i < n1
        · have hil : i < l.length := by rw [hl1.out]; exact hlt
          have hin : (i : Int) < (n1 : Int) := by omega
          go_wp2_with fail
          go_loopg [12, 13, 14, 15, 16, 98, 99, 100, 101, 102, 103, 104, 105, 106, 107, 108, 109, 110, 111, 112, 113, 114, 115, 116, 117, 118, 119, 120, 121, 122, 123, 124, 125, 126, 127, 128, 129, 130, 131, 132, 133, 134, 135, 136, 137, 138] n2 (fun jx s12 s13 s14 s15 s16 s98 s99 s100 s101 s102 s103 s104 s105 s106 s107 s108 s109 s110 s111 s112 s113 s114 s115 s116 s117 s118 s119 s120 s121 s122 s123 s124 s125 s126 s127 s128 s129 s130 s131 s132 s133 s134 s135 s136 s137 s138 wr => ∃ (k : Nat), s98 = .int .i64 k ∧ k ≤ n2 ∧ n2 - k ≤ jx ∧ Kept [] w wr)
          case atStart => exact ⟨0, rfl, Nat.zero_le _, by omega, hkr⟩
          case round =>
            clear hkr
            obtain ⟨k, rfl, hk, hgk, hkr⟩ := hrel
            by_cases hlt2 : k < n2
            · have hkl : k < m.length := by rw [hl2.out]; exact hlt2
              have hkn : (k : Int) < (n2 : Int) := by omega
              obtain ⟨bA, oA, rfl⟩ := hH1.out.addr (fun h => by rw [h] at hil; cases hil)
              obtain ⟨bB, oB, rfl⟩ := hH2.out.addr (fun h => by rw [h] at hkl; cases hkl)
              have r1 := hide (hH1.out.cel i hil)
              have r2 := hide (hH2.out.cel k hkl)
              have hxB := hB1.out l[i] (List.getElem_mem hil)
              have hyB := hB2.out m[k] (List.getElem_mem hkl)
              generalize l[i] = x at *
              generalize m[k] = y at *
              have hWx := hide (fun w1 hk => hWd.out x hxB w1 hk)
              have hWy := hide (fun w1 hk => hWd.out y hyB w1 hk)
              have hEx := hide (show wordsE x = if validC x = true then (wordsC x, 0) else (zeroW, 2) from rfl)
              have hEy := hide (show wordsE y = if validC y = true then (wordsC y, 0) else (zeroW, 2) from rfl)
              generalize wordsE x = Ex at *
              generalize wordsE y = Ey at *
              obtain ⟨x1, x2⟩ := Ex
              obtain ⟨y1, y2⟩ := Ey
              simp only at hWx hWy
              have ra := r1.out.kept hkr (by simp)
              go_wp2_with (refine wpList_load_cel rfl rfl bA (oA + i * 16) rfl ra ?_)
              refine (hWx.out wr hkr).mono ?_
              rintro e v1 ⟨rfl, hj1⟩
              have hk1 := hkr.trans hj1 (by simp)
              clear ra
              have hk1' : Kept [] w (v1.alloc (.cells #[.int .u64 x1.a, .int .u64 x1.b, .int .u64 x1.c] 34)) := hk1.alloc _
              have rb := r2.out.kept hk1' (by simp)
              have hbx : Hid (W3At (v1.alloc (.cells #[.int .u64 x1.a, .int .u64 x1.b, .int .u64 x1.c] 34)) v1.heap.size x1) := hide (W3At.new v1 x1)
              go_wp2_with (refine wpList_load_cel rfl rfl bB (oB + k * 16) rfl rb ?_)
              refine (hWy.out _ hk1').mono ?_
              rintro e v2 ⟨rfl, hj2⟩
              have hk2' : Kept [] w (v2.alloc (.cells #[.int .u64 y1.a, .int .u64 y1.b, .int .u64 y1.c] 34)) := (hk1'.trans hj2 (by simp)).alloc _
              have hbx2 := hide ((hbx.out.kept hj2 (by simp)).kept ((Kept.refl [] v2).alloc (.cells #[.int .u64 y1.a, .int .u64 y1.b, .int .u64 y1.c] 34)) (by simp))
              have hby : Hid (W3At (v2.alloc (.cells #[.int .u64 y1.a, .int .u64 y1.b, .int .u64 y1.c] 34)) v2.heap.size y1) := hide (W3At.new v2 y1)
              clear rb hbx hj1 hj2 hk1 hk1' hWx hWy
              cases hvx : validC x
              · have e2 : x2 = 2 := by have := hEx.out; rw [hvx] at this; simp at this; exact this.2
                subst e2
                go_upto_region 18 with fail
                refine wp_region_held_drew (S := (fun w' => True)) (by kernel_rfl) ?_ (fun hHeld => ?_)
                · (try dsimp only); (first | done | exact trivial)
                refine wpAnyH_take (i := 0) (v := ?_) rfl (by kernel_rfl) (by kernel_rfl) (by kernel_rfl) (fun _ _ _ h => h) (Or.inl ⟨by rfl, ?_⟩) (by assumption) ?_
                rotate_left
                · (intro wq hSw; (try dsimp only at hSw); go_simp; try with_reducible rfl)
                try simp only [Act.put, List.getElem_toArray, List.getElem_cons_zero, List.setIfInBounds_toArray, List.set_cons_zero, List.set_cons_succ]
                refine wpAnyH_take (i := 1) (v := ?_) rfl (by kernel_rfl) (by kernel_rfl) (by kernel_rfl) (fun _ _ _ h => h) (Or.inl ⟨by rfl, ?_⟩) (by assumption) ?_
                rotate_left
                · (intro wq hSw; (try dsimp only at hSw); go_simp; try with_reducible rfl)
                try simp only [Act.put, List.getElem_toArray, List.getElem_cons_succ, List.getElem_cons_zero, List.setIfInBounds_toArray, List.set_cons_zero, List.set_cons_succ]
                refine wpAnyH_take (i := 2) (v := ?_) rfl (by kernel_rfl) (by kernel_rfl) (by kernel_rfl) (fun _ _ _ h => h) (Or.inl ⟨by rfl, ?_⟩) (by assumption) ?_
                rotate_left
                · (intro wq hSw; (try dsimp only at hSw); go_simp; try with_reducible rfl)
                try simp only [Act.put, List.getElem_toArray, List.getElem_cons_succ, List.getElem_cons_zero, List.setIfInBounds_toArray, List.set_cons_zero, List.set_cons_succ]
                refine wpAnyH_take (i := 3) (v := undef) rfl (by kernel_rfl) (by kernel_rfl) (by kernel_rfl) (fun _ _ _ h => h) (Or.inr ⟨by rfl, rfl⟩) (by assumption) ?_
                try simp only [Act.put, List.getElem_toArray, List.getElem_cons_succ, List.getElem_cons_zero, List.setIfInBounds_toArray, List.set_cons_zero, List.set_cons_succ]
                refine wpAnyH_take (i := 4) (v := undef) rfl (by kernel_rfl) (by kernel_rfl) (by kernel_rfl) (fun _ _ _ h => h) (Or.inr ⟨by rfl, rfl⟩) (by assumption) ?_
                try simp only [Act.put, List.getElem_toArray, List.getElem_cons_succ, List.getElem_cons_zero, List.setIfInBounds_toArray, List.set_cons_zero, List.set_cons_succ]
                refine wpAnyH_take (i := 5) (v := ?_) rfl (by kernel_rfl) (by kernel_rfl) (by kernel_rfl) (fun _ _ _ h => h) (Or.inl ⟨by rfl, ?_⟩) (by assumption) ?_
                rotate_left
                · (intro wq hSw; (try dsimp only at hSw); go_simp; try with_reducible rfl)
                try simp only [Act.put, List.getElem_toArray, List.getElem_cons_succ, List.getElem_cons_zero, List.setIfInBounds_toArray, List.set_cons_zero, List.set_cons_succ]
                refine wpAnyH_take (i := 6) (v := ?_) rfl (by kernel_rfl) (by kernel_rfl) (by kernel_rfl) (fun _ _ _ h => h) (Or.inl ⟨by rfl, ?_⟩) (by assumption) ?_
                rotate_left
                · (intro wq hSw; (try dsimp only at hSw); go_simp; try with_reducible rfl)
                try simp only [Act.put, List.getElem_toArray, List.getElem_cons_succ, List.getElem_cons_zero, List.setIfInBounds_toArray, List.set_cons_zero, List.set_cons_succ]
                refine wpAnyH_take (i := 7) (v := undef) rfl (by kernel_rfl) (by kernel_rfl) (by kernel_rfl) (fun _ _ _ h => h) (Or.inr ⟨by rfl, rfl⟩) (by assumption) ?_
                try simp only [Act.put, List.getElem_toArray, List.getElem_cons_succ, List.getElem_cons_zero, List.setIfInBounds_toArray, List.set_cons_zero, List.set_cons_succ]
                refine wpAnyH_take (i := 8) (v := undef) rfl (by kernel_rfl) (by kernel_rfl) (by kernel_rfl) (fun _ _ _ h => h) (Or.inr ⟨by rfl, rfl⟩) (by assumption) ?_
                try simp only [Act.put, List.getElem_toArray, List.getElem_cons_succ, List.getElem_cons_zero, List.setIfInBounds_toArray, List.set_cons_zero, List.set_cons_succ]
                refine wpAnyH_take (i := 9) (v := undef) rfl (by kernel_rfl) (by kernel_rfl) (by kernel_rfl) (fun _ _ _ h => h) (Or.inr ⟨by rfl, rfl⟩) (by assumption) ?_
                try simp only [Act.put, List.getElem_toArray, List.getElem_cons_succ, List.getElem_cons_zero, List.setIfInBounds_toArray, List.set_cons_zero, List.set_cons_succ]
                refine wpAnyH_take (i := 10) (v := undef) rfl (by kernel_rfl) (by kernel_rfl) (by kernel_rfl) (fun _ _ _ h => h) (Or.inr ⟨by rfl, rfl⟩) (by assumption) ?_
                try simp only [Act.put, List.getElem_toArray, List.getElem_cons_succ, List.getElem_cons_zero, List.setIfInBounds_toArray, List.set_cons_zero, List.set_cons_succ]
                refine wpAnyH_take (i := 11) (v := undef) rfl (by kernel_rfl) (by kernel_rfl) (by kernel_rfl) (fun _ _ _ h => h) (Or.inr ⟨by rfl, rfl⟩) (by assumption) ?_
                try simp only [Act.put, List.getElem_toArray, List.getElem_cons_succ, List.getElem_cons_zero, List.setIfInBounds_toArray, List.set_cons_zero, List.set_cons_succ]
                refine wpAnyH_take (i := 12) (v := undef) rfl (by kernel_rfl) (by kernel_rfl) (by kernel_rfl) (fun _ _ _ h => h) (Or.inr ⟨by rfl, rfl⟩) (by assumption) ?_
                try simp only [Act.put, List.getElem_toArray, List.getElem_cons_succ, List.getElem_cons_zero, List.setIfInBounds_toArray, List.set_cons_zero, List.set_cons_succ]
                refine wpAnyH_take (i := 13) (v := undef) rfl (by kernel_rfl) (by kernel_rfl) (by kernel_rfl) (fun _ _ _ h => h) (Or.inr ⟨by rfl, rfl⟩) (by assumption) ?_
                try simp only [Act.put, List.getElem_toArray, List.getElem_cons_succ, List.getElem_cons_zero, List.setIfInBounds_toArray, List.set_cons_zero, List.set_cons_succ]
                refine wpAnyH_take (i := 14) (v := undef) rfl (by kernel_rfl) (by kernel_rfl) (by kernel_rfl) (fun _ _ _ h => h) (Or.inr ⟨by rfl, rfl⟩) (by assumption) ?_
                try simp only [Act.put, List.getElem_toArray, List.getElem_cons_succ, List.getElem_cons_zero, List.setIfInBounds_toArray, List.set_cons_zero, List.set_cons_succ]
                refine wpAnyH_take (i := 15) (v := undef) rfl (by kernel_rfl) (by kernel_rfl) (by kernel_rfl) (fun _ _ _ h => h) (Or.inr ⟨by rfl, rfl⟩) (by assumption) ?_
                try simp only [Act.put, List.getElem_toArray, List.getElem_cons_succ, List.getElem_cons_zero, List.setIfInBounds_toArray, List.set_cons_zero, List.set_cons_succ]
                refine wpAnyH_take (i := 16) (v := undef) rfl (by kernel_rfl) (by kernel_rfl) (by kernel_rfl) (fun _ _ _ h => h) (Or.inr ⟨by rfl, rfl⟩) (by assumption) ?_
                try simp only [Act.put, List.getElem_toArray, List.getElem_cons_succ, List.getElem_cons_zero, List.setIfInBounds_toArray, List.set_cons_zero, List.set_cons_succ]
                refine wpAnyH_take (i := 17) (v := undef) rfl (by kernel_rfl) (by kernel_rfl) (by kernel_rfl) (fun _ _ _ h => h) (Or.inr ⟨by rfl, rfl⟩) (by assumption) ?_
                try simp only [Act.put, List.getElem_toArray, List.getElem_cons_succ, List.getElem_cons_zero, List.setIfInBounds_toArray, List.set_cons_zero, List.set_cons_succ]
                refine wpAnyH_take (i := 18) (v := undef) rfl (by kernel_rfl) (by kernel_rfl) (by kernel_rfl) (fun _ _ _ h => h) (Or.inr ⟨by rfl, rfl⟩) (by assumption) ?_
                try simp only [Act.put, List.getElem_toArray, List.getElem_cons_succ, List.getElem_cons_zero, List.setIfInBounds_toArray, List.set_cons_zero, List.set_cons_succ]
                refine wpAnyH_take (i := 19) (v := undef) rfl (by kernel_rfl) (by kernel_rfl) (by kernel_rfl) (fun _ _ _ h => h) (Or.inr ⟨by rfl, rfl⟩) (by assumption) ?_
                try simp only [Act.put, List.getElem_toArray, List.getElem_cons_succ, List.getElem_cons_zero, List.setIfInBounds_toArray, List.set_cons_zero, List.set_cons_succ]
                refine wpAnyH_take (i := 20) (v := ?_) rfl (by kernel_rfl) (by kernel_rfl) (by kernel_rfl) (fun _ _ _ h => h) (Or.inl ⟨by rfl, ?_⟩) (by assumption) ?_
                rotate_left
                · (intro wq hSw; (try dsimp only at hSw); go_simp; try with_reducible rfl)
                try simp only [Act.put, List.getElem_toArray, List.getElem_cons_succ, List.getElem_cons_zero, List.setIfInBounds_toArray, List.set_cons_zero, List.set_cons_succ]
                refine wpAnyH_done (by kernel_rfl) ?_ _
                go_wp2_with fail
                go_roundg (n2 - (k + 1))
                case measure => omega
                case rel => exact ⟨k + 1, by push_cast; rfl, by omega, Nat.le_refl _, hk2'.drew⟩
              · have ex2 := hEx.out
                rw [hvx] at ex2
                simp at ex2
                obtain ⟨ex1, ex2⟩ := ex2
                subst ex2
                cases hvy : validC y
                · have e2 : y2 = 2 := by have := hEy.out; rw [hvy] at this; simp at this; exact this.2
                  subst e2
                  go_upto_region 18 with fail
                  refine wp_region_held_drew (S := (fun w' => True)) (by kernel_rfl) ?_ (fun hHeld => ?_)
                  · (try dsimp only); (first | done | exact trivial)
                  refine wpAnyH_take (i := 0) (v := ?_) rfl (by kernel_rfl) (by kernel_rfl) (by kernel_rfl) (fun _ _ _ h => h) (Or.inl ⟨by rfl, ?_⟩) (by assumption) ?_
                  rotate_left
                  · (intro wq hSw; (try dsimp only at hSw); go_simp; try with_reducible rfl)
                  try simp only [Act.put, List.getElem_toArray, List.getElem_cons_zero, List.setIfInBounds_toArray, List.set_cons_zero, List.set_cons_succ]
                  refine wpAnyH_take (i := 1) (v := ?_) rfl (by kernel_rfl) (by kernel_rfl) (by kernel_rfl) (fun _ _ _ h => h) (Or.inl ⟨by rfl, ?_⟩) (by assumption) ?_
                  rotate_left
                  · (intro wq hSw; (try dsimp only at hSw); go_simp; try with_reducible rfl)
                  try simp only [Act.put, List.getElem_toArray, List.getElem_cons_succ, List.getElem_cons_zero, List.setIfInBounds_toArray, List.set_cons_zero, List.set_cons_succ]
                  refine wpAnyH_take (i := 2) (v := ?_) rfl (by kernel_rfl) (by kernel_rfl) (by kernel_rfl) (fun _ _ _ h => h) (Or.inl ⟨by rfl, ?_⟩) (by assumption) ?_
                  rotate_left
                  · (intro wq hSw; (try dsimp only at hSw); go_simp; try with_reducible rfl)
                  try simp only [Act.put, List.getElem_toArray, List.getElem_cons_succ, List.getElem_cons_zero, List.setIfInBounds_toArray, List.set_cons_zero, List.set_cons_succ]
                  refine wpAnyH_take (i := 3) (v := ?_) rfl (by kernel_rfl) (by kernel_rfl) (by kernel_rfl) (fun _ _ _ h => h) (Or.inl ⟨by rfl, ?_⟩) (by assumption) ?_
                  rotate_left
                  · (intro wq hSw; (try dsimp only at hSw); go_simp; try with_reducible rfl)
                  try simp only [Act.put, List.getElem_toArray, List.getElem_cons_succ, List.getElem_cons_zero, List.setIfInBounds_toArray, List.set_cons_zero, List.set_cons_succ]
                  refine wpAnyH_take (i := 4) (v := ?_) rfl (by kernel_rfl) (by kernel_rfl) (by kernel_rfl) (fun _ _ _ h => h) (Or.inl ⟨by rfl, ?_⟩) (by assumption) ?_
                  rotate_left
                  · (intro wq hSw; (try dsimp only at hSw); go_simp; try with_reducible rfl)
                  try simp only [Act.put, List.getElem_toArray, List.getElem_cons_succ, List.getElem_cons_zero, List.setIfInBounds_toArray, List.set_cons_zero, List.set_cons_succ]
                  refine wpAnyH_take (i := 5) (v := ?_) rfl (by kernel_rfl) (by kernel_rfl) (by kernel_rfl) (fun _ _ _ h => h) (Or.inl ⟨by rfl, ?_⟩) (by assumption) ?_
                  rotate_left
                  · (intro wq hSw; (try dsimp only at hSw); go_simp; try with_reducible rfl)
                  try simp only [Act.put, List.getElem_toArray, List.getElem_cons_succ, List.getElem_cons_zero, List.setIfInBounds_toArray, List.set_cons_zero, List.set_cons_succ]
                  refine wpAnyH_take (i := 6) (v := ?_) rfl (by kernel_rfl) (by kernel_rfl) (by kernel_rfl) (fun _ _ _ h => h) (Or.inl ⟨by rfl, ?_⟩) (by assumption) ?_
                  rotate_left
                  · (intro wq hSw; (try dsimp only at hSw); go_simp; try with_reducible rfl)
                  try simp only [Act.put, List.getElem_toArray, List.getElem_cons_succ, List.getElem_cons_zero, List.setIfInBounds_toArray, List.set_cons_zero, List.set_cons_succ]
                  refine wpAnyH_take (i := 7) (v := undef) rfl (by kernel_rfl) (by kernel_rfl) (by kernel_rfl) (fun _ _ _ h => h) (Or.inr ⟨by rfl, rfl⟩) (by assumption) ?_
                  try simp only [Act.put, List.getElem_toArray, List.getElem_cons_succ, List.getElem_cons_zero, List.setIfInBounds_toArray, List.set_cons_zero, List.set_cons_succ]
                  refine wpAnyH_take (i := 8) (v := undef) rfl (by kernel_rfl) (by kernel_rfl) (by kernel_rfl) (fun _ _ _ h => h) (Or.inr ⟨by rfl, rfl⟩) (by assumption) ?_
                  try simp only [Act.put, List.getElem_toArray, List.getElem_cons_succ, List.getElem_cons_zero, List.setIfInBounds_toArray, List.set_cons_zero, List.set_cons_succ]
                  refine wpAnyH_take (i := 9) (v := undef) rfl (by kernel_rfl) (by kernel_rfl) (by kernel_rfl) (fun _ _ _ h => h) (Or.inr ⟨by rfl, rfl⟩) (by assumption) ?_
                  try simp only [Act.put, List.getElem_toArray, List.getElem_cons_succ, List.getElem_cons_zero, List.setIfInBounds_toArray, List.set_cons_zero, List.set_cons_succ]
                  refine wpAnyH_take (i := 10) (v := undef) rfl (by kernel_rfl) (by kernel_rfl) (by kernel_rfl) (fun _ _ _ h => h) (Or.inr ⟨by rfl, rfl⟩) (by assumption) ?_
                  try simp only [Act.put, List.getElem_toArray, List.getElem_cons_succ, List.getElem_cons_zero, List.setIfInBounds_toArray, List.set_cons_zero, List.set_cons_succ]
                  refine wpAnyH_take (i := 11) (v := undef) rfl (by kernel_rfl) (by kernel_rfl) (by kernel_rfl) (fun _ _ _ h => h) (Or.inr ⟨by rfl, rfl⟩) (by assumption) ?_
                  try simp only [Act.put, List.getElem_toArray, List.getElem_cons_succ, List.getElem_cons_zero, List.setIfInBounds_toArray, List.set_cons_zero, List.set_cons_succ]
                  refine wpAnyH_take (i := 12) (v := undef) rfl (by kernel_rfl) (by kernel_rfl) (by kernel_rfl) (fun _ _ _ h => h) (Or.inr ⟨by rfl, rfl⟩) (by assumption) ?_
                  try simp only [Act.put, List.getElem_toArray, List.getElem_cons_succ, List.getElem_cons_zero, List.setIfInBounds_toArray, List.set_cons_zero, List.set_cons_succ]
                  refine wpAnyH_take (i := 13) (v := undef) rfl (by kernel_rfl) (by kernel_rfl) (by kernel_rfl) (fun _ _ _ h => h) (Or.inr ⟨by rfl, rfl⟩) (by assumption) ?_
                  try simp only [Act.put, List.getElem_toArray, List.getElem_cons_succ, List.getElem_cons_zero, List.setIfInBounds_toArray, List.set_cons_zero, List.set_cons_succ]
                  refine wpAnyH_take (i := 14) (v := undef) rfl (by kernel_rfl) (by kernel_rfl) (by kernel_rfl) (fun _ _ _ h => h) (Or.inr ⟨by rfl, rfl⟩) (by assumption) ?_
                  try simp only [Act.put, List.getElem_toArray, List.getElem_cons_succ, List.getElem_cons_zero, List.setIfInBounds_toArray, List.set_cons_zero, List.set_cons_succ]
                  refine wpAnyH_take (i := 15) (v := undef) rfl (by kernel_rfl) (by kernel_rfl) (by kernel_rfl) (fun _ _ _ h => h) (Or.inr ⟨by rfl, rfl⟩) (by assumption) ?_
                  try simp only [Act.put, List.getElem_toArray, List.getElem_cons_succ, List.getElem_cons_zero, List.setIfInBounds_toArray, List.set_cons_zero, List.set_cons_succ]
                  refine wpAnyH_take (i := 16) (v := undef) rfl (by kernel_rfl) (by kernel_rfl) (by kernel_rfl) (fun _ _ _ h => h) (Or.inr ⟨by rfl, rfl⟩) (by assumption) ?_
                  try simp only [Act.put, List.getElem_toArray, List.getElem_cons_succ, List.getElem_cons_zero, List.setIfInBounds_toArray, List.set_cons_zero, List.set_cons_succ]
                  refine wpAnyH_take (i := 17) (v := undef) rfl (by kernel_rfl) (by kernel_rfl) (by kernel_rfl) (fun _ _ _ h => h) (Or.inr ⟨by rfl, rfl⟩) (by assumption) ?_
                  try simp only [Act.put, List.getElem_toArray, List.getElem_cons_succ, List.getElem_cons_zero, List.setIfInBounds_toArray, List.set_cons_zero, List.set_cons_succ]
                  refine wpAnyH_take (i := 18) (v := undef) rfl (by kernel_rfl) (by kernel_rfl) (by kernel_rfl) (fun _ _ _ h => h) (Or.inr ⟨by rfl, rfl⟩) (by assumption) ?_
                  try simp only [Act.put, List.getElem_toArray, List.getElem_cons_succ, List.getElem_cons_zero, List.setIfInBounds_toArray, List.set_cons_zero, List.set_cons_succ]
                  refine wpAnyH_take (i := 19) (v := undef) rfl (by kernel_rfl) (by kernel_rfl) (by kernel_rfl) (fun _ _ _ h => h) (Or.inr ⟨by rfl, rfl⟩) (by assumption) ?_
                  try simp only [Act.put, List.getElem_toArray, List.getElem_cons_succ, List.getElem_cons_zero, List.setIfInBounds_toArray, List.set_cons_zero, List.set_cons_succ]
                  refine wpAnyH_take (i := 20) (v := ?_) rfl (by kernel_rfl) (by kernel_rfl) (by kernel_rfl) (fun _ _ _ h => h) (Or.inl ⟨by rfl, ?_⟩) (by assumption) ?_
                  rotate_left
                  · (intro wq hSw; (try dsimp only at hSw); go_simp; try with_reducible rfl)
                  try simp only [Act.put, List.getElem_toArray, List.getElem_cons_succ, List.getElem_cons_zero, List.setIfInBounds_toArray, List.set_cons_zero, List.set_cons_succ]
                  refine wpAnyH_done (by kernel_rfl) ?_ _
                  go_wp2_with fail
                  go_roundg (n2 - (k + 1))
                  case measure => omega
                  case rel => exact ⟨k + 1, by push_cast; rfl, by omega, Nat.le_refl _, hk2'.drew⟩
                · have ey2 := hEy.out
                  rw [hvy] at ey2
                  simp at ey2
                  obtain ⟨ey1, ey2⟩ := ey2
                  subst ey2
                  obtain ⟨z, hz⟩ : ∃ z, z = decide (x = y) := ⟨_, rfl⟩
                  have hzw : decide (x1 = y1) = z := by
                    rw [hz, decide_eq_decide, ex1, ey1]
                    exact ⟨fun h => words_inj hvx hxB hvy hyB h, fun h => by rw [h]⟩
                  have hq1 : ∀ w, (binOp .eql 34 (.agg #[.int .u64 x1.a, .int .u64 x1.b, .int .u64 x1.c]) (.agg #[.int .u64 y1.a, .int .u64 y1.b, .int .u64 y1.c])).run Tryd.prog w = .ok (.bool z) w := fun w => (eql_W x1 y1 w).trans (by rw [hzw])
                  have hq2 : ∀ w, (binOp .eql 30 (.agg #[.int .i32 x.r, .int .i32 x.m0, .int .i32 x.m1, .int .i32 x.m2, .int .i64 x.w, .int .i64 x.p.f.k, .int .u8 x.p.f.i, .int .u8 x.p.f.r, .int .u8 x.p.f.g, .int .u8 x.p.f.b, .int .i64 x.p.b.k, .int .u8 x.p.b.i, .int .u8 x.p.b.r, .int .u8 x.p.b.g, .int .u8 x.p.b.b, .int .u8 x.p.fl]) (.agg #[.int .i32 y.r, .int .i32 y.m0, .int .i32 y.m1, .int .i32 y.m2, .int .i64 y.w, .int .i64 y.p.f.k, .int .u8 y.p.f.i, .int .u8 y.p.f.r, .int .u8 y.p.f.g, .int .u8 y.p.f.b, .int .i64 y.p.b.k, .int .u8 y.p.b.i, .int .u8 y.p.b.r, .int .u8 y.p.b.g, .int .u8 y.p.b.b, .int .u8 y.p.fl])).run Tryd.prog w = .ok (.bool z) w := fun w => (eql_K x y w).trans (by rw [hz])
                  clear hz hzw ex1 ey1 hEx hEy hvx hvy
                  have ra := (r1.out.kept hk2' (by simp)).kept ((Kept.refl [] _).drew) (by simp)
                  have rb := (r2.out.kept hk2' (by simp)).kept ((Kept.refl [] _).drew) (by simp)
                  have rx := hbx2.out.kept ((Kept.refl [] _).drew) (by simp)
                  have ry := hby.out.kept ((Kept.refl [] _).drew) (by simp)
                  cases z <;>
                  (go_upto_region 18 with fail
                   refine wp_region_held_drew (S := (fun w' => CelR w' bA (oA + i * 16) x ∧ CelR w' bB (oB + k * 16) y ∧ (w'.cell? ⟨v1.heap.size, 0, none⟩ = some (.int .u64 x1.a) ∧ w'.cell? ⟨v1.heap.size, 1, none⟩ = some (.int .u64 x1.b) ∧ w'.cell? ⟨v1.heap.size, 2, none⟩ = some (.int .u64 x1.c)) ∧ w'.cell? ⟨v2.heap.size, 0, none⟩ = some (.int .u64 y1.a) ∧ w'.cell? ⟨v2.heap.size, 1, none⟩ = some (.int .u64 y1.b) ∧ w'.cell? ⟨v2.heap.size, 2, none⟩ = some (.int .u64 y1.c))) (by kernel_rfl) ?_ (fun hHeld => ?_)
                   · exact ⟨ra, rb, rx, ry⟩
                   refine wpAnyH_take (i := 0) (v := ?_) rfl (by kernel_rfl) (by kernel_rfl) (by kernel_rfl) (fun _ _ _ h => h) (Or.inl ⟨by rfl, ?_⟩) (by assumption) ?_
                   rotate_left
                   · (intro wq hSw; (try dsimp only at hSw); go_simp; try with_reducible rfl)
                   try simp only [Act.put, List.getElem_toArray, List.getElem_cons_zero, List.setIfInBounds_toArray, List.set_cons_zero, List.set_cons_succ]
                   refine wpAnyH_take (i := 1) (v := ?_) rfl (by kernel_rfl) (by kernel_rfl) (by kernel_rfl) (fun _ _ _ h => h) (Or.inl ⟨by rfl, ?_⟩) (by assumption) ?_
                   rotate_left
                   · (intro wq hSw; (try dsimp only at hSw); go_simp; try with_reducible rfl)
                   try simp only [Act.put, List.getElem_toArray, List.getElem_cons_succ, List.getElem_cons_zero, List.setIfInBounds_toArray, List.set_cons_zero, List.set_cons_succ]
                   refine wpAnyH_take (i := 2) (v := ?_) rfl (by kernel_rfl) (by kernel_rfl) (by kernel_rfl) (fun _ _ _ h => h) (Or.inl ⟨by rfl, ?_⟩) (by assumption) ?_
                   rotate_left
                   · (intro wq hSw; (try dsimp only at hSw); go_simp; try with_reducible rfl)
                   try simp only [Act.put, List.getElem_toArray, List.getElem_cons_succ, List.getElem_cons_zero, List.setIfInBounds_toArray, List.set_cons_zero, List.set_cons_succ]
                   refine wpAnyH_take (i := 3) (v := ?_) rfl (by kernel_rfl) (by kernel_rfl) (by kernel_rfl) (fun _ _ _ h => h) (Or.inl ⟨by rfl, ?_⟩) (by assumption) ?_
                   rotate_left
                   · (intro wq hSw; (try dsimp only at hSw); go_simp; try with_reducible rfl)
                   try simp only [Act.put, List.getElem_toArray, List.getElem_cons_succ, List.getElem_cons_zero, List.setIfInBounds_toArray, List.set_cons_zero, List.set_cons_succ]
                   refine wpAnyH_take (i := 4) (v := ?_) rfl (by kernel_rfl) (by kernel_rfl) (by kernel_rfl) (fun _ _ _ h => h) (Or.inl ⟨by rfl, ?_⟩) (by assumption) ?_
                   rotate_left
                   · (intro wq hSw; (try dsimp only at hSw); go_simp; try with_reducible rfl)
                   try simp only [Act.put, List.getElem_toArray, List.getElem_cons_succ, List.getElem_cons_zero, List.setIfInBounds_toArray, List.set_cons_zero, List.set_cons_succ]
                   refine wpAnyH_take (i := 5) (v := ?_) rfl (by kernel_rfl) (by kernel_rfl) (by kernel_rfl) (fun _ _ _ h => h) (Or.inl ⟨by rfl, ?_⟩) (by assumption) ?_
                   rotate_left
                   · (intro wq hSw; (try dsimp only at hSw); go_simp; try with_reducible rfl)
                   try simp only [Act.put, List.getElem_toArray, List.getElem_cons_succ, List.getElem_cons_zero, List.setIfInBounds_toArray, List.set_cons_zero, List.set_cons_succ]
                   refine wpAnyH_take (i := 6) (v := ?_) rfl (by kernel_rfl) (by kernel_rfl) (by kernel_rfl) (fun _ _ _ h => h) (Or.inl ⟨by rfl, ?_⟩) (by assumption) ?_
                   rotate_left
                   · (intro wq hSw; (try dsimp only at hSw); go_simp; try with_reducible rfl)
                   try simp only [Act.put, List.getElem_toArray, List.getElem_cons_succ, List.getElem_cons_zero, List.setIfInBounds_toArray, List.set_cons_zero, List.set_cons_succ]
                   refine wpAnyH_take (i := 7) (v := ?_) rfl (by kernel_rfl) (by kernel_rfl) (by kernel_rfl) (fun _ _ _ h => h) (Or.inl ⟨by rfl, ?_⟩) (by assumption) ?_
                   rotate_left
                   · (intro wq hSw; (try dsimp only at hSw); go_simp; try with_reducible rfl)
                   try simp only [Act.put, List.getElem_toArray, List.getElem_cons_succ, List.getElem_cons_zero, List.setIfInBounds_toArray, List.set_cons_zero, List.set_cons_succ]
                   refine wpAnyH_take (i := 8) (v := ?_) rfl (by kernel_rfl) (by kernel_rfl) (by kernel_rfl) (fun _ _ _ h => h) (Or.inl ⟨by rfl, ?_⟩) (by assumption) ?_
                   rotate_left
                   · (intro wq hSw; (try dsimp only at hSw); go_simp; try with_reducible rfl)
                   try simp only [Act.put, List.getElem_toArray, List.getElem_cons_succ, List.getElem_cons_zero, List.setIfInBounds_toArray, List.set_cons_zero, List.set_cons_succ]
                   refine wpAnyH_take (i := 9) (v := ?_) rfl (by kernel_rfl) (by kernel_rfl) (by kernel_rfl) (fun _ _ _ h => h) (Or.inl ⟨by rfl, ?_⟩) (by assumption) ?_
                   rotate_left
                   · (intro wq hSw; (try dsimp only at hSw); go_simp; try with_reducible rfl)
                   try simp only [Act.put, List.getElem_toArray, List.getElem_cons_succ, List.getElem_cons_zero, List.setIfInBounds_toArray, List.set_cons_zero, List.set_cons_succ]
                   refine wpAnyH_take (i := 10) (v := ?_) rfl (by kernel_rfl) (by kernel_rfl) (by kernel_rfl) (fun _ _ _ h => h) (Or.inl ⟨by rfl, ?_⟩) (by assumption) ?_
                   rotate_left
                   · (intro wq hSw; (try dsimp only at hSw); go_simp; try with_reducible rfl)
                   try simp only [Act.put, List.getElem_toArray, List.getElem_cons_succ, List.getElem_cons_zero, List.setIfInBounds_toArray, List.set_cons_zero, List.set_cons_succ]
                   refine wpAnyH_take (i := 11) (v := ?_) rfl (by kernel_rfl) (by kernel_rfl) (by kernel_rfl) (fun _ _ _ h => h) (Or.inl ⟨by rfl, ?_⟩) (by assumption) ?_
                   rotate_left
                   · (intro wq hSw; (try dsimp only at hSw); go_simp; try with_reducible rfl)
                   try simp only [Act.put, List.getElem_toArray, List.getElem_cons_succ, List.getElem_cons_zero, List.setIfInBounds_toArray, List.set_cons_zero, List.set_cons_succ]
                   refine wpAnyH_take (i := 12) (v := ?_) rfl (by kernel_rfl) (by kernel_rfl) (by kernel_rfl) (fun _ _ _ h => h) (Or.inl ⟨by rfl, ?_⟩) (by assumption) ?_
                   rotate_left
                   · (intro wq hSw; (try dsimp only at hSw); go_simp; try with_reducible rfl)
                   try simp only [Act.put, List.getElem_toArray, List.getElem_cons_succ, List.getElem_cons_zero, List.setIfInBounds_toArray, List.set_cons_zero, List.set_cons_succ]
                   refine wpAnyH_take (i := 13) (v := .agg #[.int .i32 x.r, .int .i32 x.m0, .int .i32 x.m1, .int .i32 x.m2, .int .i64 x.w, .int .i64 x.p.f.k, .int .u8 x.p.f.i, .int .u8 x.p.f.r, .int .u8 x.p.f.g, .int .u8 x.p.f.b, .int .i64 x.p.b.k, .int .u8 x.p.b.i, .int .u8 x.p.b.r, .int .u8 x.p.b.g, .int .u8 x.p.b.b, .int .u8 x.p.fl]) rfl (by kernel_rfl) (by kernel_rfl) (by kernel_rfl) (fun _ _ _ h => h) (yieldsIf_load_mid (by rfl) 30 _ rfl bA (oA + i * 16) rfl (kcL x) _ (fun _ h => h.1) Tryd.underlying30 rfl (by kernel_rfl)) (by assumption) ?_
                   try simp only [Act.put, List.getElem_toArray, List.getElem_cons_succ, List.getElem_cons_zero, List.setIfInBounds_toArray, List.set_cons_zero, List.set_cons_succ]
                   refine wpAnyH_take (i := 14) (v := ?_) rfl (by kernel_rfl) (by kernel_rfl) (by kernel_rfl) (fun _ _ _ h => h) (Or.inl ⟨by rfl, ?_⟩) (by assumption) ?_
                   rotate_left
                   · (intro wq hSw; (try dsimp only at hSw); go_simp; try with_reducible rfl)
                   try simp only [Act.put, List.getElem_toArray, List.getElem_cons_succ, List.getElem_cons_zero, List.setIfInBounds_toArray, List.set_cons_zero, List.set_cons_succ]
                   refine wpAnyH_take (i := 15) (v := ?_) rfl (by kernel_rfl) (by kernel_rfl) (by kernel_rfl) (fun _ _ _ h => h) (Or.inl ⟨by rfl, ?_⟩) (by assumption) ?_
                   rotate_left
                   · (intro wq hSw; (try dsimp only at hSw); go_simp; try with_reducible rfl)
                   try simp only [Act.put, List.getElem_toArray, List.getElem_cons_succ, List.getElem_cons_zero, List.setIfInBounds_toArray, List.set_cons_zero, List.set_cons_succ]
                   refine wpAnyH_take (i := 16) (v := ?_) rfl (by kernel_rfl) (by kernel_rfl) (by kernel_rfl) (fun _ _ _ h => h) (Or.inl ⟨by rfl, ?_⟩) (by assumption) ?_
                   rotate_left
                   · (intro wq hSw; (try dsimp only at hSw); go_simp; try with_reducible rfl)
                   try simp only [Act.put, List.getElem_toArray, List.getElem_cons_succ, List.getElem_cons_zero, List.setIfInBounds_toArray, List.set_cons_zero, List.set_cons_succ]
                   refine wpAnyH_take (i := 17) (v := .agg #[.int .i32 y.r, .int .i32 y.m0, .int .i32 y.m1, .int .i32 y.m2, .int .i64 y.w, .int .i64 y.p.f.k, .int .u8 y.p.f.i, .int .u8 y.p.f.r, .int .u8 y.p.f.g, .int .u8 y.p.f.b, .int .i64 y.p.b.k, .int .u8 y.p.b.i, .int .u8 y.p.b.r, .int .u8 y.p.b.g, .int .u8 y.p.b.b, .int .u8 y.p.fl]) rfl (by kernel_rfl) (by kernel_rfl) (by kernel_rfl) (fun _ _ _ h => h) (yieldsIf_load_mid (by rfl) 30 _ rfl bB (oB + k * 16) rfl (kcL y) _ (fun _ h => h.2.1) Tryd.underlying30 rfl (by kernel_rfl)) (by assumption) ?_
                   try simp only [Act.put, List.getElem_toArray, List.getElem_cons_succ, List.getElem_cons_zero, List.setIfInBounds_toArray, List.set_cons_zero, List.set_cons_succ]
                   refine wpAnyH_take (i := 18) (v := ?_) rfl (by kernel_rfl) (by kernel_rfl) (by kernel_rfl) (fun _ _ _ h => h) (Or.inl ⟨by rfl, ?_⟩) (by assumption) ?_
                   rotate_left
                   · (intro wq hSw; (try dsimp only at hSw); go_simp; try with_reducible rfl)
                   try simp only [Act.put, List.getElem_toArray, List.getElem_cons_succ, List.getElem_cons_zero, List.setIfInBounds_toArray, List.set_cons_zero, List.set_cons_succ]
                   refine wpAnyH_take (i := 19) (v := ?_) rfl (by kernel_rfl) (by kernel_rfl) (by kernel_rfl) (fun _ _ _ h => h) (Or.inl ⟨by rfl, ?_⟩) (by assumption) ?_
                   rotate_left
                   · (intro wq hSw; (try dsimp only at hSw); go_simp; try with_reducible rfl)
                   try simp only [Act.put, List.getElem_toArray, List.getElem_cons_succ, List.getElem_cons_zero, List.setIfInBounds_toArray, List.set_cons_zero, List.set_cons_succ]
                   refine wpAnyH_take (i := 20) (v := ?_) rfl (by kernel_rfl) (by kernel_rfl) (by kernel_rfl) (fun _ _ _ h => h) (Or.inl ⟨by rfl, ?_⟩) (by assumption) ?_
                   rotate_left
                   · (intro wq hSw; (try dsimp only at hSw); go_simp; try with_reducible rfl)
                   try simp only [Act.put, List.getElem_toArray, List.getElem_cons_succ, List.getElem_cons_zero, List.setIfInBounds_toArray, List.set_cons_zero, List.set_cons_succ]
                   refine wpAnyH_done (by kernel_rfl) ?_ _
                   go_wp2_with fail
                   go_roundg (n2 - (k + 1))
                   case measure => omega
                   case rel => exact ⟨k + 1, by push_cast; rfl, by omega, Nat.le_refl _, hk2'.drew⟩)
            · obtain rfl : k = n2 := by omega
              go_wp2_with fail
              go_roundg (n1 - (i + 1))
              case measure => omega
              case rel => exact ⟨i + 1, by push_cast; rfl, by omega, Nat.le_refl _, hkr⟩
        · obtain rfl : i = n1 := by omega
          go_wp2_with fail
          refine (hKN.out wr (hT.out wr hkr)).mono ?_
          rintro e v9 ⟨rfl, hj9⟩
          go_wp2_with fail
          go_ret
          exact ⟨rfl, hkr.trans hj9 (by simp)⟩
  · rw [show packR l = ([], 2) from packR_bad (by omega) hva] at hPa
    rw [show packR (l ++ m) = ([], 2) from packR_bad (by simp; omega) (fun h => hva (valid_app.1 h).1)] at hPab
    clear hva
    generalize packR m = Fm at *
    go_enter Tryd.func8, Tryd.ntmps8
    go_wp2_with fail
    refine hPa.out.mono ?_
    rintro e w1 ⟨a4, n4, c4, rfl, ho4, hk1⟩
    go_wp2_with fail
    refine (hPb.out w1 hk1).mono ?_
    rintro e w2 ⟨a5, n5, c5, rfl, ho5, hj2⟩
    have hk2 := hk1.trans hj2 (by simp)
    have ho4 := hide (ho4.kept hj2 (by simp))
    have hs2 := hk2.size
    have q1 := hH1.out.kept hk2 (by simp)
    have q2 := hH2.out.kept hk2 (by simp)
    have o1 := cellsV_one l
    have o2 := cellsV_one m
    go_wp2_with (at_builtin; first
      | (refine wpList_app ?_ rfl elCell rfl rfl ho6 rfl q3 o2 ?p4 ?p5; intro a7 c7 w4 ho7 hk4 hat7)
      | (refine wpList_app ?_ rfl elCell rfl rfl (hw0 w2) rfl q1 o1 ?p2 ?p3; intro a6 c6 w3 ho6 hk3 hat6; rw [Nat.zero_add, List.nil_append] at ho6; have hk3 : Kept [] w2 w3 := hk3; have hs3 := hk3.size; have q3 := q2.kept hk3 (by simp)))
    case p2 => omega
    case p3 => exact hs2
    case p4 => omega
    case p5 => omega
    rw [← cellsV_app] at ho7
    have hk4' : Kept [] w w4 := (hk2.trans hk3 (by simp)).own hk4 (fun g hg => (ho6.ge g hg).1)
    have hP7 := hide (hPab.out a7 (n1 + n2) c7 w4 hk4' ho7.rd (by omega))
    have ho4 := hide ((ho4.out.kept hk3 (by simp)).kept hk4 (fun g hg hg6 => by have h1 := (ho4.out.ge g hg).2; rcases hat6 g hg6 with h2 | h2; cases h2; omega))
    clear q1 q2 q3 o1 o2 ho6 ho7 hk3 hk4 hat6 hat7 hPab
    refine hP7.out.mono ?_
    rintro e w5 ⟨a8, n8, c8, rfl, ho8, hj5⟩
    have hk5 := hk4'.trans hj5 (by simp)
    have ho4 := hide (ho4.out.kept hj5 (by simp))
    have hkZ := hk5
    clear hPa hPb hP7 hk5 hj5 hk4' ho4 ho5 ho8
    go_wp2_with fail
    go_loopg [11, 12, 13, 14, 15, 16, 93, 94, 95, 96, 97, 98, 99, 100, 101, 102, 103, 104, 105, 106, 107, 108, 109, 110, 111, 112, 113, 114, 115, 116, 117, 118, 119, 120, 121, 122, 123, 124, 125, 126, 127, 128, 129, 130, 131, 132, 133, 134, 135, 136, 137, 138, 139] n1 (fun kx s11 s12 s13 s14 s15 s16 s93 s94 s95 s96 s97 s98 s99 s100 s101 s102 s103 s104 s105 s106 s107 s108 s109 s110 s111 s112 s113 s114 s115 s116 s117 s118 s119 s120 s121 s122 s123 s124 s125 s126 s127 s128 s129 s130 s131 s132 s133 s134 s135 s136 s137 s138 s139 wr => ∃ (i : Nat), s93 = .int .i64 i ∧ i ≤ n1 ∧ n1 - i ≤ kx ∧ Kept [] w wr)
    case atStart => exact ⟨0, rfl, Nat.zero_le _, by omega, hkZ⟩
    case round =>
      obtain ⟨i, rfl, hi, hgi, hkr⟩ := hrel
      by_cases hlt : i < n1
      · have hil : i < l.length := by rw [hl1.out]; exact hlt
        have hin : (i : Int) < (n1 : Int) := by omega
        go_wp2_with fail
        go_loopg [12, 13, 14, 15, 16, 98, 99, 100, 101, 102, 103, 104, 105, 106, 107, 108, 109, 110, 111, 112, 113, 114, 115, 116, 117, 118, 119, 120, 121, 122, 123, 124, 125, 126, 127, 128, 129, 130, 131, 132, 133, 134, 135, 136, 137, 138] n2 (fun jx s12 s13 s14 s15 s16 s98 s99 s100 s101 s102 s103 s104 s105 s106 s107 s108 s109 s110 s111 s112 s113 s114 s115 s116 s117 s118 s119 s120 s121 s122 s123 s124 s125 s126 s127 s128 s129 s130 s131 s132 s133 s134 s135 s136 s137 s138 wr => ∃ (k : Nat), s98 = .int .i64 k ∧ k ≤ n2 ∧ n2 - k ≤ jx ∧ Kept [] w wr)
        case atStart => exact ⟨0, rfl, Nat.zero_le _, by omega, hkr⟩
        case round =>
          clear hkr
          obtain ⟨k, rfl, hk, hgk, hkr⟩ := hrel
          by_cases hlt2 : k < n2
          · have hkl : k < m.length := by rw [hl2.out]; exact hlt2
            have hkn : (k : Int) < (n2 : Int) := by omega
            obtain ⟨bA, oA, rfl⟩ := hH1.out.addr (fun h => by rw [h] at hil; cases hil)
            obtain ⟨bB, oB, rfl⟩ := hH2.out.addr (fun h => by rw [h] at hkl; cases hkl)
            have r1 := hide (hH1.out.cel i hil)
            have r2 := hide (hH2.out.cel k hkl)
            have hxB := hB1.out l[i] (List.getElem_mem hil)
            have hyB := hB2.out m[k] (List.getElem_mem hkl)
            generalize l[i] = x at *
            generalize m[k] = y at *
            have hWx := hide (fun w1 hk => hWd.out x hxB w1 hk)
            have hWy := hide (fun w1 hk => hWd.out y hyB w1 hk)
            have hEx := hide (show wordsE x = if validC x = true then (wordsC x, 0) else (zeroW, 2) from rfl)
            have hEy := hide (show wordsE y = if validC y = true then (wordsC y, 0) else (zeroW, 2) from rfl)
            generalize wordsE x = Ex at *
            generalize wordsE y = Ey at *
            obtain ⟨x1, x2⟩ := Ex
            obtain ⟨y1, y2⟩ := Ey
            simp only at hWx hWy
            have ra := r1.out.kept hkr (by simp)
            go_wp2_with (refine wpList_load_cel rfl rfl bA (oA + i * 16) rfl ra ?_)
            refine (hWx.out wr hkr).mono ?_
            rintro e v1 ⟨rfl, hj1⟩
            have hk1 := hkr.trans hj1 (by simp)
            clear ra
            have hk1' : Kept [] w (v1.alloc (.cells #[.int .u64 x1.a, .int .u64 x1.b, .int .u64 x1.c] 34)) := hk1.alloc _
            have rb := r2.out.kept hk1' (by simp)
            have hbx : Hid (W3At (v1.alloc (.cells #[.int .u64 x1.a, .int .u64 x1.b, .int .u64 x1.c] 34)) v1.heap.size x1) := hide (W3At.new v1 x1)
            go_wp2_with (refine wpList_load_cel rfl rfl bB (oB + k * 16) rfl rb ?_)
            refine (hWy.out _ hk1').mono ?_
            rintro e v2 ⟨rfl, hj2⟩
            have hk2' : Kept [] w (v2.alloc (.cells #[.int .u64 y1.a, .int .u64 y1.b, .int .u64 y1.c] 34)) := (hk1'.trans hj2 (by simp)).alloc _
            have hbx2 := hide ((hbx.out.kept hj2 (by simp)).kept ((Kept.refl [] v2).alloc (.cells #[.int .u64 y1.a, .int .u64 y1.b, .int .u64 y1.c] 34)) (by simp))
            have hby : Hid (W3At (v2.alloc (.cells #[.int .u64 y1.a, .int .u64 y1.b, .int .u64 y1.c] 34)) v2.heap.size y1) := hide (W3At.new v2 y1)
            clear rb hbx hj1 hj2 hk1 hk1' hWx hWy
            cases hvx : validC x
            · have e2 : x2 = 2 := by have := hEx.out; rw [hvx] at this; simp at this; exact this.2
              subst e2
              go_upto_region 18 with fail
              refine wp_region_held_drew (S := (fun w' => True)) (by kernel_rfl) ?_ (fun hHeld => ?_)
              · (try dsimp only); (first | done | exact trivial)
              refine wpAnyH_take (i := 0) (v := ?_) rfl (by kernel_rfl) (by kernel_rfl) (by kernel_rfl) (fun _ _ _ h => h) (Or.inl ⟨by rfl, ?_⟩) (by assumption) ?_
              rotate_left
              · (intro wq hSw; (try dsimp only at hSw); go_simp; try with_reducible rfl)
              try simp only [Act.put, List.getElem_toArray, List.getElem_cons_zero, List.setIfInBounds_toArray, List.set_cons_zero, List.set_cons_succ]
              refine wpAnyH_take (i := 1) (v := ?_) rfl (by kernel_rfl) (by kernel_rfl) (by kernel_rfl) (fun _ _ _ h => h) (Or.inl ⟨by rfl, ?_⟩) (by assumption) ?_
              rotate_left
              · (intro wq hSw; (try dsimp only at hSw); go_simp; try with_reducible rfl)
              try simp only [Act.put, List.getElem_toArray, List.getElem_cons_succ, List.getElem_cons_zero, List.setIfInBounds_toArray, List.set_cons_zero, List.set_cons_succ]
              refine wpAnyH_take (i := 2) (v := ?_) rfl (by kernel_rfl) (by kernel_rfl) (by kernel_rfl) (fun _ _ _ h => h) (Or.inl ⟨by rfl, ?_⟩) (by assumption) ?_
              rotate_left
              · (intro wq hSw; (try dsimp only at hSw); go_simp; try with_reducible rfl)
              try simp only [Act.put, List.getElem_toArray, List.getElem_cons_succ, List.getElem_cons_zero, List.setIfInBounds_toArray, List.set_cons_zero, List.set_cons_succ]
              refine wpAnyH_take (i := 3) (v := undef) rfl (by kernel_rfl) (by kernel_rfl) (by kernel_rfl) (fun _ _ _ h => h) (Or.inr ⟨by rfl, rfl⟩) (by assumption) ?_
              try simp only [Act.put, List.getElem_toArray, List.getElem_cons_succ, List.getElem_cons_zero, List.setIfInBounds_toArray, List.set_cons_zero, List.set_cons_succ]
              refine wpAnyH_take (i := 4) (v := undef) rfl (by kernel_rfl) (by kernel_rfl) (by kernel_rfl) (fun _ _ _ h => h) (Or.inr ⟨by rfl, rfl⟩) (by assumption) ?_
              try simp only [Act.put, List.getElem_toArray, List.getElem_cons_succ, List.getElem_cons_zero, List.setIfInBounds_toArray, List.set_cons_zero, List.set_cons_succ]
              refine wpAnyH_take (i := 5) (v := ?_) rfl (by kernel_rfl) (by kernel_rfl) (by kernel_rfl) (fun _ _ _ h => h) (Or.inl ⟨by rfl, ?_⟩) (by assumption) ?_
              rotate_left
              · (intro wq hSw; (try dsimp only at hSw); go_simp; try with_reducible rfl)
              try simp only [Act.put, List.getElem_toArray, List.getElem_cons_succ, List.getElem_cons_zero, List.setIfInBounds_toArray, List.set_cons_zero, List.set_cons_succ]
              refine wpAnyH_take (i := 6) (v := ?_) rfl (by kernel_rfl) (by kernel_rfl) (by kernel_rfl) (fun _ _ _ h => h) (Or.inl ⟨by rfl, ?_⟩) (by assumption) ?_
              rotate_left
              · (intro wq hSw; (try dsimp only at hSw); go_simp; try with_reducible rfl)
              try simp only [Act.put, List.getElem_toArray, List.getElem_cons_succ, List.getElem_cons_zero, List.setIfInBounds_toArray, List.set_cons_zero, List.set_cons_succ]
              refine wpAnyH_take (i := 7) (v := undef) rfl (by kernel_rfl) (by kernel_rfl) (by kernel_rfl) (fun _ _ _ h => h) (Or.inr ⟨by rfl, rfl⟩) (by assumption) ?_
              try simp only [Act.put, List.getElem_toArray, List.getElem_cons_succ, List.getElem_cons_zero, List.setIfInBounds_toArray, List.set_cons_zero, List.set_cons_succ]
              refine wpAnyH_take (i := 8) (v := undef) rfl (by kernel_rfl) (by kernel_rfl) (by kernel_rfl) (fun _ _ _ h => h) (Or.inr ⟨by rfl, rfl⟩) (by assumption) ?_
              try simp only [Act.put, List.getElem_toArray, List.getElem_cons_succ, List.getElem_cons_zero, List.setIfInBounds_toArray, List.set_cons_zero, List.set_cons_succ]
              refine wpAnyH_take (i := 9) (v := undef) rfl (by kernel_rfl) (by kernel_rfl) (by kernel_rfl) (fun _ _ _ h => h) (Or.inr ⟨by rfl, rfl⟩) (by assumption) ?_
              try simp only [Act.put, List.getElem_toArray, List.getElem_cons_succ, List.getElem_cons_zero, List.setIfInBounds_toArray, List.set_cons_zero, List.set_cons_succ]
              refine wpAnyH_take (i := 10) (v := undef) rfl (by kernel_rfl) (by kernel_rfl) (by kernel_rfl) (fun _ _ _ h => h) (Or.inr ⟨by rfl, rfl⟩) (by assumption) ?_
              try simp only [Act.put, List.getElem_toArray, List.getElem_cons_succ, List.getElem_cons_zero, List.setIfInBounds_toArray, List.set_cons_zero, List.set_cons_succ]
              refine wpAnyH_take (i := 11) (v := undef) rfl (by kernel_rfl) (by kernel_rfl) (by kernel_rfl) (fun _ _ _ h => h) (Or.inr ⟨by rfl, rfl⟩) (by assumption) ?_
              try simp only [Act.put, List.getElem_toArray, List.getElem_cons_succ, List.getElem_cons_zero, List.setIfInBounds_toArray, List.set_cons_zero, List.set_cons_succ]
              refine wpAnyH_take (i := 12) (v := undef) rfl (by kernel_rfl) (by kernel_rfl) (by kernel_rfl) (fun _ _ _ h => h) (Or.inr ⟨by rfl, rfl⟩) (by assumption) ?_
              try simp only [Act.put, List.getElem_toArray, List.getElem_cons_succ, List.getElem_cons_zero, List.setIfInBounds_toArray, List.set_cons_zero, List.set_cons_succ]
              refine wpAnyH_take (i := 13) (v := undef) rfl (by kernel_rfl) (by kernel_rfl) (by kernel_rfl) (fun _ _ _ h => h) (Or.inr ⟨by rfl, rfl⟩) (by assumption) ?_
              try simp only [Act.put, List.getElem_toArray, List.getElem_cons_succ, List.getElem_cons_zero, List.setIfInBounds_toArray, List.set_cons_zero, List.set_cons_succ]
              refine wpAnyH_take (i := 14) (v := undef) rfl (by kernel_rfl) (by kernel_rfl) (by kernel_rfl) (fun _ _ _ h => h) (Or.inr ⟨by rfl, rfl⟩) (by assumption) ?_
              try simp only [Act.put, List.getElem_toArray, List.getElem_cons_succ, List.getElem_cons_zero, List.setIfInBounds_toArray, List.set_cons_zero, List.set_cons_succ]
              refine wpAnyH_take (i := 15) (v := undef) rfl (by kernel_rfl) (by kernel_rfl) (by kernel_rfl) (fun _ _ _ h => h) (Or.inr ⟨by rfl, rfl⟩) (by assumption) ?_
              try simp only [Act.put, List.getElem_toArray, List.getElem_cons_succ, List.getElem_cons_zero, List.setIfInBounds_toArray, List.set_cons_zero, List.set_cons_succ]
              refine wpAnyH_take (i := 16) (v := undef) rfl (by kernel_rfl) (by kernel_rfl) (by kernel_rfl) (fun _ _ _ h => h) (Or.inr ⟨by rfl, rfl⟩) (by assumption) ?_
              try simp only [Act.put, List.getElem_toArray, List.getElem_cons_succ, List.getElem_cons_zero, List.setIfInBounds_toArray, List.set_cons_zero, List.set_cons_succ]
              refine wpAnyH_take (i := 17) (v := undef) rfl (by kernel_rfl) (by kernel_rfl) (by kernel_rfl) (fun _ _ _ h => h) (Or.inr ⟨by rfl, rfl⟩) (by assumption) ?_
              try simp only [Act.put, List.getElem_toArray, List.getElem_cons_succ, List.getElem_cons_zero, List.setIfInBounds_toArray, List.set_cons_zero, List.set_cons_succ]
              refine wpAnyH_take (i := 18) (v := undef) rfl (by kernel_rfl) (by kernel_rfl) (by kernel_rfl) (fun _ _ _ h => h) (Or.inr ⟨by rfl, rfl⟩) (by assumption) ?_
              try simp only [Act.put, List.getElem_toArray, List.getElem_cons_succ, List.getElem_cons_zero, List.setIfInBounds_toArray, List.set_cons_zero, List.set_cons_succ]
              refine wpAnyH_take (i := 19) (v := undef) rfl (by kernel_rfl) (by kernel_rfl) (by kernel_rfl) (fun _ _ _ h => h) (Or.inr ⟨by rfl, rfl⟩) (by assumption) ?_
              try simp only [Act.put, List.getElem_toArray, List.getElem_cons_succ, List.getElem_cons_zero, List.setIfInBounds_toArray, List.set_cons_zero, List.set_cons_succ]
              refine wpAnyH_take (i := 20) (v := ?_) rfl (by kernel_rfl) (by kernel_rfl) (by kernel_rfl) (fun _ _ _ h => h) (Or.inl ⟨by rfl, ?_⟩) (by assumption) ?_
              rotate_left
              · (intro wq hSw; (try dsimp only at hSw); go_simp; try with_reducible rfl)
              try simp only [Act.put, List.getElem_toArray, List.getElem_cons_succ, List.getElem_cons_zero, List.setIfInBounds_toArray, List.set_cons_zero, List.set_cons_succ]
              refine wpAnyH_done (by kernel_rfl) ?_ _
              go_wp2_with fail
              go_roundg (n2 - (k + 1))
              case measure => omega
              case rel => exact ⟨k + 1, by push_cast; rfl, by omega, Nat.le_refl _, hk2'.drew⟩
            · have ex2 := hEx.out
              rw [hvx] at ex2
              simp at ex2
              obtain ⟨ex1, ex2⟩ := ex2
              subst ex2
              cases hvy : validC y
              · have e2 : y2 = 2 := by have := hEy.out; rw [hvy] at this; simp at this; exact this.2
                subst e2
                go_upto_region 18 with fail
                refine wp_region_held_drew (S := (fun w' => True)) (by kernel_rfl) ?_ (fun hHeld => ?_)
                · (try dsimp only); (first | done | exact trivial)
                refine wpAnyH_take (i := 0) (v := ?_) rfl (by kernel_rfl) (by kernel_rfl) (by kernel_rfl) (fun _ _ _ h => h) (Or.inl ⟨by rfl, ?_⟩) (by assumption) ?_
                rotate_left
                · (intro wq hSw; (try dsimp only at hSw); go_simp; try with_reducible rfl)
                try simp only [Act.put, List.getElem_toArray, List.getElem_cons_zero, List.setIfInBounds_toArray, List.set_cons_zero, List.set_cons_succ]
                refine wpAnyH_take (i := 1) (v := ?_) rfl (by kernel_rfl) (by kernel_rfl) (by kernel_rfl) (fun _ _ _ h => h) (Or.inl ⟨by rfl, ?_⟩) (by assumption) ?_
                rotate_left
                · (intro wq hSw; (try dsimp only at hSw); go_simp; try with_reducible rfl)
                try simp only [Act.put, List.getElem_toArray, List.getElem_cons_succ, List.getElem_cons_zero, List.setIfInBounds_toArray, List.set_cons_zero, List.set_cons_succ]
                refine wpAnyH_take (i := 2) (v := ?_) rfl (by kernel_rfl) (by kernel_rfl) (by kernel_rfl) (fun _ _ _ h => h) (Or.inl ⟨by rfl, ?_⟩) (by assumption) ?_
                rotate_left
                · (intro wq hSw; (try dsimp only at hSw); go_simp; try with_reducible rfl)
                try simp only [Act.put, List.getElem_toArray, List.getElem_cons_succ, List.getElem_cons_zero, List.setIfInBounds_toArray, List.set_cons_zero, List.set_cons_succ]
                refine wpAnyH_take (i := 3) (v := ?_) rfl (by kernel_rfl) (by kernel_rfl) (by kernel_rfl) (fun _ _ _ h => h) (Or.inl ⟨by rfl, ?_⟩) (by assumption) ?_
                rotate_left
                · (intro wq hSw; (try dsimp only at hSw); go_simp; try with_reducible rfl)
                try simp only [Act.put, List.getElem_toArray, List.getElem_cons_succ, List.getElem_cons_zero, List.setIfInBounds_toArray, List.set_cons_zero, List.set_cons_succ]
                refine wpAnyH_take (i := 4) (v := ?_) rfl (by kernel_rfl) (by kernel_rfl) (by kernel_rfl) (fun _ _ _ h => h) (Or.inl ⟨by rfl, ?_⟩) (by assumption) ?_
                rotate_left
                · (intro wq hSw; (try dsimp only at hSw); go_simp; try with_reducible rfl)
                try simp only [Act.put, List.getElem_toArray, List.getElem_cons_succ, List.getElem_cons_zero, List.setIfInBounds_toArray, List.set_cons_zero, List.set_cons_succ]
                refine wpAnyH_take (i := 5) (v := ?_) rfl (by kernel_rfl) (by kernel_rfl) (by kernel_rfl) (fun _ _ _ h => h) (Or.inl ⟨by rfl, ?_⟩) (by assumption) ?_
                rotate_left
                · (intro wq hSw; (try dsimp only at hSw); go_simp; try with_reducible rfl)
                try simp only [Act.put, List.getElem_toArray, List.getElem_cons_succ, List.getElem_cons_zero, List.setIfInBounds_toArray, List.set_cons_zero, List.set_cons_succ]
                refine wpAnyH_take (i := 6) (v := ?_) rfl (by kernel_rfl) (by kernel_rfl) (by kernel_rfl) (fun _ _ _ h => h) (Or.inl ⟨by rfl, ?_⟩) (by assumption) ?_
                rotate_left
                · (intro wq hSw; (try dsimp only at hSw); go_simp; try with_reducible rfl)
                try simp only [Act.put, List.getElem_toArray, List.getElem_cons_succ, List.getElem_cons_zero, List.setIfInBounds_toArray, List.set_cons_zero, List.set_cons_succ]
                refine wpAnyH_take (i := 7) (v := undef) rfl (by kernel_rfl) (by kernel_rfl) (by kernel_rfl) (fun _ _ _ h => h) (Or.inr ⟨by rfl, rfl⟩) (by assumption) ?_
                try simp only [Act.put, List.getElem_toArray, List.getElem_cons_succ, List.getElem_cons_zero, List.setIfInBounds_toArray, List.set_cons_zero, List.set_cons_succ]
                refine wpAnyH_take (i := 8) (v := undef) rfl (by kernel_rfl) (by kernel_rfl) (by kernel_rfl) (fun _ _ _ h => h) (Or.inr ⟨by rfl, rfl⟩) (by assumption) ?_
                try simp only [Act.put, List.getElem_toArray, List.getElem_cons_succ, List.getElem_cons_zero, List.setIfInBounds_toArray, List.set_cons_zero, List.set_cons_succ]
                refine wpAnyH_take (i := 9) (v := undef) rfl (by kernel_rfl) (by kernel_rfl) (by kernel_rfl) (fun _ _ _ h => h) (Or.inr ⟨by rfl, rfl⟩) (by assumption) ?_
                try simp only [Act.put, List.getElem_toArray, List.getElem_cons_succ, List.getElem_cons_zero, List.setIfInBounds_toArray, List.set_cons_zero, List.set_cons_succ]
                refine wpAnyH_take (i := 10) (v := undef) rfl (by kernel_rfl) (by kernel_rfl) (by kernel_rfl) (fun _ _ _ h => h) (Or.inr ⟨by rfl, rfl⟩) (by assumption) ?_
                try simp only [Act.put, List.getElem_toArray, List.getElem_cons_succ, List.getElem_cons_zero, List.setIfInBounds_toArray, List.set_cons_zero, List.set_cons_succ]
                refine wpAnyH_take (i := 11) (v := undef) rfl (by kernel_rfl) (by kernel_rfl) (by kernel_rfl) (fun _ _ _ h => h) (Or.inr ⟨by rfl, rfl⟩) (by assumption) ?_
                try simp only [Act.put, List.getElem_toArray, List.getElem_cons_succ, List.getElem_cons_zero, List.setIfInBounds_toArray, List.set_cons_zero, List.set_cons_succ]
                refine wpAnyH_take (i := 12) (v := undef) rfl (by kernel_rfl) (by kernel_rfl) (by kernel_rfl) (fun _ _ _ h => h) (Or.inr ⟨by rfl, rfl⟩) (by assumption) ?_
                try simp only [Act.put, List.getElem_toArray, List.getElem_cons_succ, List.getElem_cons_zero, List.setIfInBounds_toArray, List.set_cons_zero, List.set_cons_succ]
                refine wpAnyH_take (i := 13) (v := undef) rfl (by kernel_rfl) (by kernel_rfl) (by kernel_rfl) (fun _ _ _ h => h) (Or.inr ⟨by rfl, rfl⟩) (by assumption) ?_
                try simp only [Act.put, List.getElem_toArray, List.getElem_cons_succ, List.getElem_cons_zero, List.setIfInBounds_toArray, List.set_cons_zero, List.set_cons_succ]
                refine wpAnyH_take (i := 14) (v := undef) rfl (by kernel_rfl) (by kernel_rfl) (by kernel_rfl) (fun _ _ _ h => h) (Or.inr ⟨by rfl, rfl⟩) (by assumption) ?_
                try simp only [Act.put, List.getElem_toArray, List.getElem_cons_succ, List.getElem_cons_zero, List.setIfInBounds_toArray, List.set_cons_zero, List.set_cons_succ]
                refine wpAnyH_take (i := 15) (v := undef) rfl (by kernel_rfl) (by kernel_rfl) (by kernel_rfl) (fun _ _ _ h => h) (Or.inr ⟨by rfl, rfl⟩) (by assumption) ?_
                try simp only [Act.put, List.getElem_toArray, List.getElem_cons_succ, List.getElem_cons_zero, List.setIfInBounds_toArray, List.set_cons_zero, List.set_cons_succ]
                refine wpAnyH_take (i := 16) (v := undef) rfl (by kernel_rfl) (by kernel_rfl) (by kernel_rfl) (fun _ _ _ h => h) (Or.inr ⟨by rfl, rfl⟩) (by assumption) ?_
                try simp only [Act.put, List.getElem_toArray, List.getElem_cons_succ, List.getElem_cons_zero, List.setIfInBounds_toArray, List.set_cons_zero, List.set_cons_succ]
                refine wpAnyH_take (i := 17) (v := undef) rfl (by kernel_rfl) (by kernel_rfl) (by kernel_rfl) (fun _ _ _ h => h) (Or.inr ⟨by rfl, rfl⟩) (by assumption) ?_
                try simp only [Act.put, List.getElem_toArray, List.getElem_cons_succ, List.getElem_cons_zero, List.setIfInBounds_toArray, List.set_cons_zero, List.set_cons_succ]
                refine wpAnyH_take (i := 18) (v := undef) rfl (by kernel_rfl) (by kernel_rfl) (by kernel_rfl) (fun _ _ _ h => h) (Or.inr ⟨by rfl, rfl⟩) (by assumption) ?_
                try simp only [Act.put, List.getElem_toArray, List.getElem_cons_succ, List.getElem_cons_zero, List.setIfInBounds_toArray, List.set_cons_zero, List.set_cons_succ]
                refine wpAnyH_take (i := 19) (v := undef) rfl (by kernel_rfl) (by kernel_rfl) (by kernel_rfl) (fun _ _ _ h => h) (Or.inr ⟨by rfl, rfl⟩) (by assumption) ?_
                try simp only [Act.put, List.getElem_toArray, List.getElem_cons_succ, List.getElem_cons_zero, List.setIfInBounds_toArray, List.set_cons_zero, List.set_cons_succ]
                refine wpAnyH_take (i := 20) (v := ?_) rfl (by kernel_rfl) (by kernel_rfl) (by kernel_rfl) (fun _ _ _ h => h) (Or.inl ⟨by rfl, ?_⟩) (by assumption) ?_
                rotate_left
                · (intro wq hSw; (try dsimp only at hSw); go_simp; try with_reducible rfl)
                try simp only [Act.put, List.getElem_toArray, List.getElem_cons_succ, List.getElem_cons_zero, List.setIfInBounds_toArray, List.set_cons_zero, List.set_cons_succ]
                refine wpAnyH_done (by kernel_rfl) ?_ _
                go_wp2_with fail
                go_roundg (n2 - (k + 1))
                case measure => omega
                case rel => exact ⟨k + 1, by push_cast; rfl, by omega, Nat.le_refl _, hk2'.drew⟩
              · have ey2 := hEy.out
                rw [hvy] at ey2
                simp at ey2
                obtain ⟨ey1, ey2⟩ := ey2
                subst ey2
                obtain ⟨z, hz⟩ : ∃ z, z = decide (x = y) := ⟨_, rfl⟩
                have hzw : decide (x1 = y1) = z := by
                  rw [hz, decide_eq_decide, ex1, ey1]
                  exact ⟨fun h => words_inj hvx hxB hvy hyB h, fun h => by rw [h]⟩
                have hq1 : ∀ w, (binOp .eql 34 (.agg #[.int .u64 x1.a, .int .u64 x1.b, .int .u64 x1.c]) (.agg #[.int .u64 y1.a, .int .u64 y1.b, .int .u64 y1.c])).run Tryd.prog w = .ok (.bool z) w := fun w => (eql_W x1 y1 w).trans (by rw [hzw])
                have hq2 : ∀ w, (binOp .eql 30 (.agg #[.int .i32 x.r, .int .i32 x.m0, .int .i32 x.m1, .int .i32 x.m2, .int .i64 x.w, .int .i64 x.p.f.k, .int .u8 x.p.f.i, .int .u8 x.p.f.r, .int .u8 x.p.f.g, .int .u8 x.p.f.b, .int .i64 x.p.b.k, .int .u8 x.p.b.i, .int .u8 x.p.b.r, .int .u8 x.p.b.g, .int .u8 x.p.b.b, .int .u8 x.p.fl]) (.agg #[.int .i32 y.r, .int .i32 y.m0, .int .i32 y.m1, .int .i32 y.m2, .int .i64 y.w, .int .i64 y.p.f.k, .int .u8 y.p.f.i, .int .u8 y.p.f.r, .int .u8 y.p.f.g, .int .u8 y.p.f.b, .int .i64 y.p.b.k, .int .u8 y.p.b.i, .int .u8 y.p.b.r, .int .u8 y.p.b.g, .int .u8 y.p.b.b, .int .u8 y.p.fl])).run Tryd.prog w = .ok (.bool z) w := fun w => (eql_K x y w).trans (by rw [hz])
                clear hz hzw ex1 ey1 hEx hEy hvx hvy
                have ra := (r1.out.kept hk2' (by simp)).kept ((Kept.refl [] _).drew) (by simp)
                have rb := (r2.out.kept hk2' (by simp)).kept ((Kept.refl [] _).drew) (by simp)
                have rx := hbx2.out.kept ((Kept.refl [] _).drew) (by simp)
                have ry := hby.out.kept ((Kept.refl [] _).drew) (by simp)
                cases z <;>
                (go_upto_region 18 with fail
                 refine wp_region_held_drew (S := (fun w' => CelR w' bA (oA + i * 16) x ∧ CelR w' bB (oB + k * 16) y ∧ (w'.cell? ⟨v1.heap.size, 0, none⟩ = some (.int .u64 x1.a) ∧ w'.cell? ⟨v1.heap.size, 1, none⟩ = some (.int .u64 x1.b) ∧ w'.cell? ⟨v1.heap.size, 2, none⟩ = some (.int .u64 x1.c)) ∧ w'.cell? ⟨v2.heap.size, 0, none⟩ = some (.int .u64 y1.a) ∧ w'.cell? ⟨v2.heap.size, 1, none⟩ = some (.int .u64 y1.b) ∧ w'.cell? ⟨v2.heap.size, 2, none⟩ = some (.int .u64 y1.c))) (by kernel_rfl) ?_ (fun hHeld => ?_)
                 · exact ⟨ra, rb, rx, ry⟩
                 refine wpAnyH_take (i := 0) (v := ?_) rfl (by kernel_rfl) (by kernel_rfl) (by kernel_rfl) (fun _ _ _ h => h) (Or.inl ⟨by rfl, ?_⟩) (by assumption) ?_
                 rotate_left
                 · (intro wq hSw; (try dsimp only at hSw); go_simp; try with_reducible rfl)
                 try simp only [Act.put, List.getElem_toArray, List.getElem_cons_zero, List.setIfInBounds_toArray, List.set_cons_zero, List.set_cons_succ]
                 refine wpAnyH_take (i := 1) (v := ?_) rfl (by kernel_rfl) (by kernel_rfl) (by kernel_rfl) (fun _ _ _ h => h) (Or.inl ⟨by rfl, ?_⟩) (by assumption) ?_
                 rotate_left
                 · (intro wq hSw; (try dsimp only at hSw); go_simp; try with_reducible rfl)
                 try simp only [Act.put, List.getElem_toArray, List.getElem_cons_succ, List.getElem_cons_zero, List.setIfInBounds_toArray, List.set_cons_zero, List.set_cons_succ]
                 refine wpAnyH_take (i := 2) (v := ?_) rfl (by kernel_rfl) (by kernel_rfl) (by kernel_rfl) (fun _ _ _ h => h) (Or.inl ⟨by rfl, ?_⟩) (by assumption) ?_
                 rotate_left
                 · (intro wq hSw; (try dsimp only at hSw); go_simp; try with_reducible rfl)
                 try simp only [Act.put, List.getElem_toArray, List.getElem_cons_succ, List.getElem_cons_zero, List.setIfInBounds_toArray, List.set_cons_zero, List.set_cons_succ]
                 refine wpAnyH_take (i := 3) (v := ?_) rfl (by kernel_rfl) (by kernel_rfl) (by kernel_rfl) (fun _ _ _ h => h) (Or.inl ⟨by rfl, ?_⟩) (by assumption) ?_
                 rotate_left
                 · (intro wq hSw; (try dsimp only at hSw); go_simp; try with_reducible rfl)
                 try simp only [Act.put, List.getElem_toArray, List.getElem_cons_succ, List.getElem_cons_zero, List.setIfInBounds_toArray, List.set_cons_zero, List.set_cons_succ]
                 refine wpAnyH_take (i := 4) (v := ?_) rfl (by kernel_rfl) (by kernel_rfl) (by kernel_rfl) (fun _ _ _ h => h) (Or.inl ⟨by rfl, ?_⟩) (by assumption) ?_
                 rotate_left
                 · (intro wq hSw; (try dsimp only at hSw); go_simp; try with_reducible rfl)
                 try simp only [Act.put, List.getElem_toArray, List.getElem_cons_succ, List.getElem_cons_zero, List.setIfInBounds_toArray, List.set_cons_zero, List.set_cons_succ]
                 refine wpAnyH_take (i := 5) (v := ?_) rfl (by kernel_rfl) (by kernel_rfl) (by kernel_rfl) (fun _ _ _ h => h) (Or.inl ⟨by rfl, ?_⟩) (by assumption) ?_
                 rotate_left
                 · (intro wq hSw; (try dsimp only at hSw); go_simp; try with_reducible rfl)
                 try simp only [Act.put, List.getElem_toArray, List.getElem_cons_succ, List.getElem_cons_zero, List.setIfInBounds_toArray, List.set_cons_zero, List.set_cons_succ]
                 refine wpAnyH_take (i := 6) (v := ?_) rfl (by kernel_rfl) (by kernel_rfl) (by kernel_rfl) (fun _ _ _ h => h) (Or.inl ⟨by rfl, ?_⟩) (by assumption) ?_
                 rotate_left
                 · (intro wq hSw; (try dsimp only at hSw); go_simp; try with_reducible rfl)
                 try simp only [Act.put, List.getElem_toArray, List.getElem_cons_succ, List.getElem_cons_zero, List.setIfInBounds_toArray, List.set_cons_zero, List.set_cons_succ]
                 refine wpAnyH_take (i := 7) (v := ?_) rfl (by kernel_rfl) (by kernel_rfl) (by kernel_rfl) (fun _ _ _ h => h) (Or.inl ⟨by rfl, ?_⟩) (by assumption) ?_
                 rotate_left
                 · (intro wq hSw; (try dsimp only at hSw); go_simp; try with_reducible rfl)
                 try simp only [Act.put, List.getElem_toArray, List.getElem_cons_succ, List.getElem_cons_zero, List.setIfInBounds_toArray, List.set_cons_zero, List.set_cons_succ]
                 refine wpAnyH_take (i := 8) (v := ?_) rfl (by kernel_rfl) (by kernel_rfl) (by kernel_rfl) (fun _ _ _ h => h) (Or.inl ⟨by rfl, ?_⟩) (by assumption) ?_
                 rotate_left
                 · (intro wq hSw; (try dsimp only at hSw); go_simp; try with_reducible rfl)
                 try simp only [Act.put, List.getElem_toArray, List.getElem_cons_succ, List.getElem_cons_zero, List.setIfInBounds_toArray, List.set_cons_zero, List.set_cons_succ]
                 refine wpAnyH_take (i := 9) (v := ?_) rfl (by kernel_rfl) (by kernel_rfl) (by kernel_rfl) (fun _ _ _ h => h) (Or.inl ⟨by rfl, ?_⟩) (by assumption) ?_
                 rotate_left
                 · (intro wq hSw; (try dsimp only at hSw); go_simp; try with_reducible rfl)
                 try simp only [Act.put, List.getElem_toArray, List.getElem_cons_succ, List.getElem_cons_zero, List.setIfInBounds_toArray, List.set_cons_zero, List.set_cons_succ]
                 refine wpAnyH_take (i := 10) (v := ?_) rfl (by kernel_rfl) (by kernel_rfl) (by kernel_rfl) (fun _ _ _ h => h) (Or.inl ⟨by rfl, ?_⟩) (by assumption) ?_
                 rotate_left
                 · (intro wq hSw; (try dsimp only at hSw); go_simp; try with_reducible rfl)
                 try simp only [Act.put, List.getElem_toArray, List.getElem_cons_succ, List.getElem_cons_zero, List.setIfInBounds_toArray, List.set_cons_zero, List.set_cons_succ]
                 refine wpAnyH_take (i := 11) (v := ?_) rfl (by kernel_rfl) (by kernel_rfl) (by kernel_rfl) (fun _ _ _ h => h) (Or.inl ⟨by rfl, ?_⟩) (by assumption) ?_
                 rotate_left
                 · (intro wq hSw; (try dsimp only at hSw); go_simp; try with_reducible rfl)
                 try simp only [Act.put, List.getElem_toArray, List.getElem_cons_succ, List.getElem_cons_zero, List.setIfInBounds_toArray, List.set_cons_zero, List.set_cons_succ]
                 refine wpAnyH_take (i := 12) (v := ?_) rfl (by kernel_rfl) (by kernel_rfl) (by kernel_rfl) (fun _ _ _ h => h) (Or.inl ⟨by rfl, ?_⟩) (by assumption) ?_
                 rotate_left
                 · (intro wq hSw; (try dsimp only at hSw); go_simp; try with_reducible rfl)
                 try simp only [Act.put, List.getElem_toArray, List.getElem_cons_succ, List.getElem_cons_zero, List.setIfInBounds_toArray, List.set_cons_zero, List.set_cons_succ]
                 refine wpAnyH_take (i := 13) (v := .agg #[.int .i32 x.r, .int .i32 x.m0, .int .i32 x.m1, .int .i32 x.m2, .int .i64 x.w, .int .i64 x.p.f.k, .int .u8 x.p.f.i, .int .u8 x.p.f.r, .int .u8 x.p.f.g, .int .u8 x.p.f.b, .int .i64 x.p.b.k, .int .u8 x.p.b.i, .int .u8 x.p.b.r, .int .u8 x.p.b.g, .int .u8 x.p.b.b, .int .u8 x.p.fl]) rfl (by kernel_rfl) (by kernel_rfl) (by kernel_rfl) (fun _ _ _ h => h) (yieldsIf_load_mid (by rfl) 30 _ rfl bA (oA + i * 16) rfl (kcL x) _ (fun _ h => h.1) Tryd.underlying30 rfl (by kernel_rfl)) (by assumption) ?_
                 try simp only [Act.put, List.getElem_toArray, List.getElem_cons_succ, List.getElem_cons_zero, List.setIfInBounds_toArray, List.set_cons_zero, List.set_cons_succ]
                 refine wpAnyH_take (i := 14) (v := ?_) rfl (by kernel_rfl) (by kernel_rfl) (by kernel_rfl) (fun _ _ _ h => h) (Or.inl ⟨by rfl, ?_⟩) (by assumption) ?_
                 rotate_left
                 · (intro wq hSw; (try dsimp only at hSw); go_simp; try with_reducible rfl)
                 try simp only [Act.put, List.getElem_toArray, List.getElem_cons_succ, List.getElem_cons_zero, List.setIfInBounds_toArray, List.set_cons_zero, List.set_cons_succ]
                 refine wpAnyH_take (i := 15) (v := ?_) rfl (by kernel_rfl) (by kernel_rfl) (by kernel_rfl) (fun _ _ _ h => h) (Or.inl ⟨by rfl, ?_⟩) (by assumption) ?_
                 rotate_left
                 · (intro wq hSw; (try dsimp only at hSw); go_simp; try with_reducible rfl)
                 try simp only [Act.put, List.getElem_toArray, List.getElem_cons_succ, List.getElem_cons_zero, List.setIfInBounds_toArray, List.set_cons_zero, List.set_cons_succ]
                 refine wpAnyH_take (i := 16) (v := ?_) rfl (by kernel_rfl) (by kernel_rfl) (by kernel_rfl) (fun _ _ _ h => h) (Or.inl ⟨by rfl, ?_⟩) (by assumption) ?_
                 rotate_left
                 · (intro wq hSw; (try dsimp only at hSw); go_simp; try with_reducible rfl)
                 try simp only [Act.put, List.getElem_toArray, List.getElem_cons_succ, List.getElem_cons_zero, List.setIfInBounds_toArray, List.set_cons_zero, List.set_cons_succ]
                 refine wpAnyH_take (i := 17) (v := .agg #[.int .i32 y.r, .int .i32 y.m0, .int .i32 y.m1, .int .i32 y.m2, .int .i64 y.w, .int .i64 y.p.f.k, .int .u8 y.p.f.i, .int .u8 y.p.f.r, .int .u8 y.p.f.g, .int .u8 y.p.f.b, .int .i64 y.p.b.k, .int .u8 y.p.b.i, .int .u8 y.p.b.r, .int .u8 y.p.b.g, .int .u8 y.p.b.b, .int .u8 y.p.fl]) rfl (by kernel_rfl) (by kernel_rfl) (by kernel_rfl) (fun _ _ _ h => h) (yieldsIf_load_mid (by rfl) 30 _ rfl bB (oB + k * 16) rfl (kcL y) _ (fun _ h => h.2.1) Tryd.underlying30 rfl (by kernel_rfl)) (by assumption) ?_
                 try simp only [Act.put, List.getElem_toArray, List.getElem_cons_succ, List.getElem_cons_zero, List.setIfInBounds_toArray, List.set_cons_zero, List.set_cons_succ]
                 refine wpAnyH_take (i := 18) (v := ?_) rfl (by kernel_rfl) (by kernel_rfl) (by kernel_rfl) (fun _ _ _ h => h) (Or.inl ⟨by rfl, ?_⟩) (by assumption) ?_
                 rotate_left
                 · (intro wq hSw; (try dsimp only at hSw); go_simp; try with_reducible rfl)
                 try simp only [Act.put, List.getElem_toArray, List.getElem_cons_succ, List.getElem_cons_zero, List.setIfInBounds_toArray, List.set_cons_zero, List.set_cons_succ]
                 refine wpAnyH_take (i := 19) (v := ?_) rfl (by kernel_rfl) (by kernel_rfl) (by kernel_rfl) (fun _ _ _ h => h) (Or.inl ⟨by rfl, ?_⟩) (by assumption) ?_
                 rotate_left
                 · (intro wq hSw; (try dsimp only at hSw); go_simp; try with_reducible rfl)
                 try simp only [Act.put, List.getElem_toArray, List.getElem_cons_succ, List.getElem_cons_zero, List.setIfInBounds_toArray, List.set_cons_zero, List.set_cons_succ]
                 refine wpAnyH_take (i := 20) (v := ?_) rfl (by kernel_rfl) (by kernel_rfl) (by kernel_rfl) (fun _ _ _ h => h) (Or.inl ⟨by rfl, ?_⟩) (by assumption) ?_
                 rotate_left
                 · (intro wq hSw; (try dsimp only at hSw); go_simp; try with_reducible rfl)
                 try simp only [Act.put, List.getElem_toArray, List.getElem_cons_succ, List.getElem_cons_zero, List.setIfInBounds_toArray, List.set_cons_zero, List.set_cons_succ]
                 refine wpAnyH_done (by kernel_rfl) ?_ _
                 go_wp2_with fail
                 go_roundg (n2 - (k + 1))
                 case measure => omega
                 case rel => exact ⟨k + 1, by push_cast; rfl, by omega, Nat.le_refl _, hk2'.drew⟩)
          · obtain rfl : k = n2 := by omega
            go_wp2_with fail
            go_roundg (n1 - (i + 1))
            case measure => omega
            case rel => exact ⟨i + 1, by push_cast; rfl, by omega, Nat.le_refl _, hkr⟩
      · obtain rfl : i = n1 := by omega
        go_wp2_with fail
        refine (hKN.out wr (hT.out wr hkr)).mono ?_
        rintro e v9 ⟨rfl, hj9⟩
        go_wp2_with fail
        go_ret
        exact ⟨rfl, hkr.trans hj9 (by simp)⟩
end Go.Proofs.YtpdjlollijbdeaaDoor
