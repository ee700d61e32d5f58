/- Calls of the law among the arguments: a slice of them. The law RingPlays. -/
import Derived.Test.YtnkddhmhjnhgcaaGreatDoorLinLaid
import Derived.Test.YtnkddhmhjnhgcaaGreatDoorRnDoes
import Derived.Test.YtnkddhmhjnhgcaaGreatDoorRnKn
namespace Go.Proofs.YtnkddhmhjnhgcaaGreatDoor
open Go.ChangeShapes Go.WideShapes Go.ChangeAt Go.RowKit Go.Deep
set_option linter.unusedVariables false
set_option maxRecDepth 100000

theorem cIntS : Tryz.prog.cellsOf 3 = 1 := by kernel_rfl
theorem cActS : Tryz.prog.cellsOf 38 = 5 := by kernel_rfl
section
variable {H : Type} {enc : TypeId × Value → H} {w : World} {base : Nat} {sp : Nat → Bool} {held : Bool}
theorem open_line2 {fuel : Nat} {v0 v1 : Value} {x : DataW H × List MemPlace} (h : DataW.trod enc Tryz.prog w base sp held fuel 36 [v0, v1] = some x) :
    ∃ (a : Option Addr) (n c : Nat) (l : List Cl) (s : Bool), v0 = .slice a n c ∧ v1 = .bool s ∧ n ≤ c ∧ c ≤ maxLen ∧ Rd w a n 16 (cellsV l) := by
  obtain ⟨xs, n, rfl, hx, _, hlen, hf⟩ := DataW.trod_struct Tryz.underlying36 h
  have g0 : DataW.trod enc Tryz.prog w base sp held n 34 (([v0, v1].drop 0).take (Tryz.prog.cellsOf 34)) = xs[0]? := hf 0 _ rfl
  have g1 : DataW.trod enc Tryz.prog w base sp held n 4 (([v0, v1].drop 1).take (Tryz.prog.cellsOf 4)) = xs[1]? := hf 1 _ rfl
  rw [cCells] at g0
  rw [cBool] at g1
  match xs, hlen with
  | [y0, y1], _ =>
    obtain ⟨a, m, c, l, rfl, h1, h2, h3⟩ := open_cels1 (x := y0) (by simpa using g0)
    obtain ⟨s, e1, _⟩ := DataW.trod_bool Tryz.underlying4 (x := y1) (by simpa using g1)
    simp at e1
    subst e1
    exact ⟨a, m, c, l, s, rfl, rfl, h1, h2, h3⟩
def AcOk (w : World) (u : AcA) : Prop := u.n ≤ u.c ∧ u.c ≤ maxLen ∧ ∃ l, Rd w u.a u.n 16 (cellsV l)
theorem open_act5 {fuel : Nat} {c0 c1 c2 c3 c4 : Value} {x : DataW H × List MemPlace} (h : DataW.trod enc Tryz.prog w base sp held fuel 38 [c0, c1, c2, c3, c4] = some x) :
    ∃ u : AcA, AcOk w u ∧ [c0, c1, c2, c3, c4] = acV u := by
  obtain ⟨xs, n, rfl, hx, _, hlen, hf⟩ := DataW.trod_struct Tryz.underlying38 h
  have g0 : DataW.trod enc Tryz.prog w base sp held n 3 (([c0, c1, c2, c3, c4].drop 0).take (Tryz.prog.cellsOf 3)) = xs[0]? := hf 0 _ rfl
  have g1 : DataW.trod enc Tryz.prog w base sp held n 3 (([c0, c1, c2, c3, c4].drop 1).take (Tryz.prog.cellsOf 3)) = xs[1]? := hf 1 _ rfl
  have g2 : DataW.trod enc Tryz.prog w base sp held n 3 (([c0, c1, c2, c3, c4].drop 2).take (Tryz.prog.cellsOf 3)) = xs[2]? := hf 2 _ rfl
  have g3 : DataW.trod enc Tryz.prog w base sp held n 36 (([c0, c1, c2, c3, c4].drop 3).take (Tryz.prog.cellsOf 36)) = xs[3]? := hf 3 _ rfl
  rw [cIntS] at g0 g1 g2
  rw [cLine] at g3
  match xs, hlen with
  | [y0, y1, y2, y3], _ =>
    obtain ⟨k0, e0, _, _⟩ := DataW.trod_int Tryz.underlying3 (x := y0) (by simpa using g0)
    obtain ⟨k1, e1, _, _⟩ := DataW.trod_int Tryz.underlying3 (x := y1) (by simpa using g1)
    obtain ⟨k2, e2, _, _⟩ := DataW.trod_int Tryz.underlying3 (x := y2) (by simpa using g2)
    obtain ⟨a, m, c, l, s, e3, e4, h1, h2, h3⟩ := open_line2 (x := y3) (by simpa using g3)
    simp at e0 e1 e2
    subst e0 e1 e2 e3 e4
    exact ⟨⟨k0, k1, k2, a, m, c, s⟩, ⟨h1, h2, l, h3⟩, rfl⟩
/-- A slice of things of k cells each. -/
theorem open_rowsS {α : Type} {f : α → List Value} {k : Nat} (hR : RowOf f k) {P : α → Prop} (d0 : α) {S E : TypeId} (hS : Tryz.prog.underlying S = some (.slice E)) (hE : Tryz.prog.cellsOf E = k)
    (open1 : ∀ fuel cs x, DataW.trod enc Tryz.prog w base sp held fuel E cs = some x → cs.length = k → ∃ y, P y ∧ cs = f y)
    {r : Reach} {b0 : Nat} {v : Value} {d : DataW H} {p : List MemPlace} (hv : Value.okWide Tryz.prog w r b0 S v) (h : DataW.Trod enc Tryz.prog w base sp held S v d p) :
    ∃ (a : Option Addr) (n c : Nat) (l : List α), v = .slice a n c ∧ (∀ x ∈ l, P x) ∧ Rd w a n k (rowsV f l) := by
  obtain ⟨a, n, c, rfl⟩ := okWide_slice hS hv
  refine ⟨a, n, c, ?_⟩
  obtain ⟨fuel, hf⟩ := h
  rcases open_slice hS hf with ⟨hcs, _⟩ | ⟨ad, len, cap, m, kk, D, Pl, hcs, _, hlc, _, hm, _, hel⟩
  · simp [Value.cells] at hcs
    obtain ⟨rfl, rfl, rfl⟩ := hcs
    exact ⟨[], rfl, by simp, Rd.nil _ _ _⟩
  · simp [Value.cells] at hcs
    obtain ⟨rfl, rfl, rfl⟩ := hcs
    have hlm : n ≤ m := by rw [hm]; split <;> omega
    by_cases hn : n = 0
    · subst hn
      exact ⟨[], rfl, by simp, Rd.nil _ _ _⟩
    · have hspot : ad.spot = none := by
        obtain ⟨cs', h1, h2⟩ := hel 0 (by omega)
        rw [hE] at h1
        obtain ⟨_, hl, hcell⟩ := World.cells?_some h1
        have h0 := hcell 0 hR.pos
        rw [List.getElem?_eq_getElem (by rw [hl]; exact hR.pos)] at h0
        have h0 := World.cell?_spot h0
        obtain ⟨b, o, spot⟩ := ad
        cases spot with
        | none => rfl
        | some s => simp [Addr.add] at h0
      obtain ⟨b, o, spot⟩ := ad
      simp only at hspot
      subst hspot
      have each : ∀ i, i < n → ∃ c : α, P c ∧ ∀ j u, (f c)[j]? = some u → w.cell? ⟨b, o + (i * k + j), none⟩ = some u := fun i hi => by
        obtain ⟨cs', h1, h2⟩ := hel i (by omega)
        rw [hE] at h1
        obtain ⟨_, hl, hcell⟩ := World.cells?_some h1
        obtain ⟨x, hPx, hx⟩ := open1 _ _ _ h2 hl
        refine ⟨x, hPx, fun j u hu => ?_⟩
        have hj : j < k := by have := (List.getElem?_eq_some_iff.1 hu).1; rwa [hR.len] at this
        have := hcell j (by omega)
        rw [hx, hu, Addr.add_mid, Addr.add_mid, Nat.add_assoc] at this
        exact this
      obtain ⟨g, hg⟩ : ∃ g : Nat → α, ∀ i, i < n → P (g i) ∧ ∀ j u, (f (g i))[j]? = some u → w.cell? ⟨b, o + (i * k + j), none⟩ = some u :=
        ⟨fun i => if h : i < n then Classical.choose (each i h) else d0, fun i hi => by simp only [dif_pos hi]; exact Classical.choose_spec (each i hi)⟩
      refine ⟨(List.range n).map g, rfl, ?_, by rw [rowsV_len hR]; simp, .inr ⟨b, o, rfl, fun j u hu => ?_⟩⟩
      · intro x hx
        obtain ⟨i, hi, rfl⟩ := List.mem_map.1 hx
        exact (hg i (List.mem_range.1 hi)).1
      · have hj : j < n * k := by have := (List.getElem?_eq_some_iff.1 hu).1; rw [rowsV_len hR] at this; simpa using this
        have hdiv : j / k < n := (Nat.div_lt_iff_lt_mul hR.pos).2 hj
        have hmod : j % k < k := Nat.mod_lt _ hR.pos
        have ee : j / k * k + j % k = j := by rw [Nat.mul_comm]; exact Nat.div_add_mod j k
        have hi : j / k < ((List.range n).map g).length := by simpa using hdiv
        have e := rowsV_at hR ((List.range n).map g) (j / k) hi (j % k) hmod
        rw [ee, hu] at e
        have h3 := (hg (j / k) hdiv).2 (j % k) u (by rw [e]; simp)
        rw [ee] at h3
        exact h3
theorem open_acts {r : Reach} {b0 : Nat} {v : Value} {d : DataW H} {p : List MemPlace} (hv : Value.okWide Tryz.prog w r b0 22 v) (h : DataW.Trod enc Tryz.prog w base sp held 22 v d p) :
    ∃ (a : Option Addr) (n c : Nat) (l : List AcA), v = .slice a n c ∧ (∀ u ∈ l, AcOk w u) ∧ Rd w a n 5 (rowsV acV l) :=
  open_rowsS rowAc ⟨0, 0, 0, none, 0, 0, false⟩ Tryz.underlying22 cActS (fun fuel cs x hx hl => by
    match cs, hl with
    | [c0, c1, c2, c3, c4], _ => exact open_act5 hx) hv h
end
end Go.Proofs.YtnkddhmhjnhgcaaGreatDoor
namespace Go.Proofs.YtnkddhmhjnhgcaaGreatDoor
open Go.RowKit
set_option linter.unusedVariables false
set_option linter.unusedSimpArgs false
set_option maxRecDepth 100000

theorem does8_any (w0 w : World) (b : Nat) (r : Rg) (B : List Nat) (a : Option Addr) (n c : Nat) (us : List LnA) (ap : Option Addr) (np cp : Nat) (h : HR w0 w b r B a n c us ap np cp) (hw2 : 2 ≤ w0.heap.size) (u : AcA) (l : List Cl) (hr : Rd w u.a u.n 16 (cellsV l)) (huc : u.n ≤ u.c) (hum : u.c ≤ maxLen) (hun : u.n ≤ 20) (k : Nat) (hk : r.next ≤ k) (hk9 : k ≤ 1000) :
    Calls Tryz.prog 8 #[.pointer (some ⟨b, 0, none⟩), .agg #[.int .i64 (r.limit : Nat), .int .i64 (r.places : Nat), .int .i64 (r.first : Nat), .slice a n c, .slice ap np cp], .agg #[.int .i64 u.wh, .int .i64 u.nm, .int .i64 u.to, .slice u.a u.n u.c, .bool u.s]] w (Does8Ret w0 w B a n us ap np (k + 1)) := by
  by_cases h0 : u.wh = 0
  · exact does8Push w0 w b r B a n c us ap np cp h hw2 u l hr huc hum hun k hk hk9 h0
  by_cases h1 : u.wh = 1
  · exact does8Pop w0 w b r B a n c us ap np cp h hw2 u l hr huc hum hun k hk hk9 h1
  by_cases h2 : u.wh = 2
  · exact does8Set w0 w b r B a n c us ap np cp h hw2 u l hr huc hum hun k hk hk9 h2
  by_cases h3 : u.wh = 3
  · exact does8Limit w0 w b r B a n c us ap np cp h hw2 u l hr huc hum hun k hk hk9 h3
  by_cases h4 : u.wh = 4
  · exact does8Clear w0 w b r B a n c us ap np cp h hw2 u l hr huc hum hun k hk hk9 h4
  exact does8Copy w0 w b r B a n c us ap np cp h hw2 u l hr huc hum hun k hk hk9 ⟨h0, h1, h2, h3, h4⟩
set_option maxHeartbeats 40000000 in
theorem ringPlays_any (k1 k2 : Int) (a1 : Option Addr) (N cN : Nat) (us0 : List AcA) (w : World) (hr : Rd w a1 N 5 (rowsV acV us0)) (hus : ∀ u ∈ us0, AcOk w u) (ht : Tabs w) :
    Calls Tryz.prog 3 #[.int .i64 k1, .int .i64 k2, .slice a1 N cN] w fun e w' => e = .returned (.bool true) ∧ Kept [] w w' := by
  have hkn0 := hide (fun w1 (hk : Kept [] w w1) => Known8.at known8_any (ht.kept hk))
  have hw2 := hide (tabs_lt8 ht)
  have ht0 := hide ht
  have hR := hide hr
  have hU := hide hus
  have hul := hide (hr.rowLen rowAc)
  clear ht hr hus
  by_cases hin : 0 ≤ k1 ∧ k1 ≤ 1048576 ∧ 1 ≤ k2 ∧ k2 ≤ 1024
  · obtain ⟨m, rfl⟩ : ∃ P : Nat, k1 = P := ⟨k1.toNat, by omega⟩
    obtain ⟨P, rfl⟩ : ∃ P : Nat, k2 = P := ⟨k2.toNat, by omega⟩
    have q1 : ¬ ((m : Int) < 0) := by omega
    have q2 : ¬ ((m : Int) > 1048576) := by omega
    have q3 : ¬ ((P : Int) < 1) := by omega
    have q4 : ¬ ((P : Int) > 1024) := by omega
    have hpp : ∀ (b : Nat) w1, (binOp .eql 25 (.pointer (some ⟨b, 0, none⟩)) (.pointer none)).run Tryz.prog w1 = .ok (.bool false) w1 := fun b w1 => by kernel_rfl
    have hpq : ∀ (b : Nat) w1, (binOp .neq 25 (.pointer (some ⟨b, 0, none⟩)) (.pointer none)).run Tryz.prog w1 = .ok (.bool true) w1 := fun b w1 => by kernel_rfl
    replace hin := hide hin
    go_enter Tryz.func3, Tryz.ntmps3
    go_wp2_with fail
    refine (New8_any (m : Int) (P : Int) w).mono ?_
    rintro e w1 ⟨hk1, hyes, _⟩
    obtain ⟨b, B0, rfl, hpg, hB⟩ := hyes hin.out
    have hpb := hpp b
    have hpc := hpq b
    have hS0 : Hid (HR w w1 b ⟨m, P, 0, [], []⟩ B0 none 0 0 [] none 0 0) := hide ⟨ht0.out.kept hk1, hk1, hpg, hB, LnsR.nil _ _, Nat.le_refl _, Nat.zero_le _, Rd.nil _ _ _, Nat.le_refl _, Nat.zero_le _, by simp [blkN], by simp [blks], by simp [blkN]⟩
    clear hyes hpg hB hpp hpq
    go_wp2_with fail
    refine (few8_any a1 N cN us0 w1 (hR.out.kept hk1 (by simp))).mono ?_
    rintro e w2 ⟨v, rfl, hv, j2⟩
    have hS2 := hide (hS0.out.keep j2)
    cases v
    · go_wp2_with fail
      refine (hkn0.out w2 hS2.out.kp).mono ?_
      rintro e w3 ⟨rfl, j3⟩
      go_wp2_with fail
      go_ret
      exact ⟨rfl, hS2.out.kp.trans j3 (by simp)⟩
    · obtain ⟨hN40, hu20⟩ := hv rfl
      have hN40 := hide hN40
      have hu20 := hide hu20
      clear hv j2 hk1 hS0
      go_upto_region 7 with (refine wpList_store_rg rfl rfl rfl w2.heap.size rfl (RgIn.new w2 0 0 0 none 0 0 none 0 0) (m : Int) (P : Int) 0 none 0 0 none 0 0 rfl ?_; intro w3 hb7 j3)
      have hj3 : Kept [] w2 w3 := ((Kept.refl [] w2).alloc (.cells #[.int .i64 0, .int .i64 0, .int .i64 0, .slice none 0 0, .slice none 0 0] 33)).trans j3 (by simp)
      have hS3 := hide (hS2.out.keep hj3)
      have hb7B := hide (show w2.heap.size ∉ B0 from fun hm => by have := hS2.out.rn.lt _ hm; omega)
      have hb7 := hide hb7
      have hw2s := hide hS2.out.kp.size
      clear hj3 j3 hS2
      generalize w2.heap.size = b7 at *
      go_wp2_with fail
      go_loopg [7, 11, 12, 13, 14, 15, 16, 17, 18, 70, 71, 72, 73, 74, 75, 76, 77, 78, 79, 80, 81, 82, 83, 84, 85, 86, 87, 88, 89, 90, 91, 92, 93, 94, 95, 96, 97, 98, 99, 100, 101, 102, 103, 104, 105, 106, 107, 108, 109, 110, 111, 112, 113, 114, 115, 116, 117, 118, 119, 120, 121, 122, 123, 124, 125, 126] N (fun kx s7 s11 s12 s13 s14 s15 s16 s17 s18 s70 s71 s72 s73 s74 s75 s76 s77 s78 s79 s80 s81 s82 s83 s84 s85 s86 s87 s88 s89 s90 s91 s92 s93 s94 s95 s96 s97 s98 s99 s100 s101 s102 s103 s104 s105 s106 s107 s108 s109 s110 s111 s112 s113 s114 s115 s116 s117 s118 s119 s120 s121 s122 s123 s124 s125 s126 wr => ∃ (i b : Nat) (r : Rg) (B : List Nat) (a : Option Addr) (n c : Nat) (us : List LnA) (ap : Option Addr) (np cp : Nat), s7 = .pointer (some ⟨b, 0, none⟩) ∧ s70 = .int .i64 i ∧ i ≤ N ∧ N - i ≤ kx ∧ Hid (HR w wr b r B a n c us ap np cp ∧ RgIn wr b7 (r.limit : Nat) (r.places : Nat) (r.first : Nat) a n c ap np cp ∧ r.next ≤ i ∧ ¬ (b7 ∈ B ∨ b7 ∈ blkN a n ∨ b7 ∈ blks us ∨ b7 ∈ blkN ap np)))
      case atStart => exact ⟨0, b, ⟨m, P, 0, [], []⟩, B0, none, 0, 0, [], none, 0, 0, rfl, rfl, Nat.zero_le _, by omega, hide ⟨hS3.out, hb7.out, by simp [Rg.next], by simp [blkN, blks, hb7B.out]⟩⟩
      case round =>
        obtain ⟨i, b', r, B, a, n, c, us, ap, np, cp, rfl, rfl, hi, hg, hrel⟩ := hrel
        have hH := hide hrel.out.1
        have hb7 := hide hrel.out.2.1
        have hxi := hide hrel.out.2.2.1
        have hd7 := hide hrel.out.2.2.2
        clear hrel
        by_cases hlt : i < N
        · have hiN : (i : Int) < (N : Int) := by omega
          have hiu : i < us0.length := by rw [hul.out]; exact hlt
          have t4 : IntKind.i64.wrap ((i : Int) + 1) = (i : Int) + 1 := by rw [IntKind.wrap_i64]; have := hN40.out; omega
          obtain ⟨g, o, rfl⟩ := hR.out.rowAddr rowAc (by omega)
          have hrow := hide ((hR.out.kept hH.out.kp (by simp)).row rowAc i hiu)
          have hun := hide (hu20.out _ (List.getElem_mem hiu))
          obtain ⟨huc, hum, l, hl⟩ := hU.out _ (List.getElem_mem hiu)
          have hl := hide hl
          have huc := hide huc
          have hum := hide hum
          generalize us0[i] = u at *
          have h7lt := hide hb7.out.lt
          have hBlt := hide hH.out.rn.lt
          go_upto_region 9 with fail
          go_upto_region 10 with (first | refine wpList_store_ac rfl rfl rfl wr.heap.size rfl (AcIn.new wr ⟨0, 0, 0, none, 0, 0, false⟩) u rfl ?_; intro w3 hb9 j3 | refine wpList_load_mid rfl 38 _ rfl g (o + i * 5) rfl (acV u) _ hrow.out Tryz.underlying38 rfl (by kernel_rfl) ?_)
          have hj3 : Kept [] wr w3 := ((Kept.refl [] wr).alloc (.cells #[.int .i64 0, .int .i64 0, .int .i64 0, .slice none 0 0, .bool false] 38)).trans j3 (by simp)
          have hH3 := hide (hH.out.keep hj3)
          have hb9' := hide hb9
          obtain ⟨q0, q1, q2, q3, q4⟩ := hb9.at
          obtain ⟨p0, p1, p2, p3, p4⟩ := (hb7.out.kept hj3 (by simp)).at
          clear hb9
          go_wp2_with fail
          refine (does8_any w w3 b' r B a n c us ap np cp hH3.out hw2.out u l (hl.out.kept hH3.out.kp (by simp)) huc.out hum.out hun.out i hxi.out (by have := hN40.out; omega)).mono ?_
          rintro e w4 ⟨b4, r4, B4, a4, n4, c4, us4, ap4, np4, cp4, rfl, hH4, hx4, k4, hOO⟩
          have hb74 := hide ((hb7.out.kept hj3 (by simp)).kept k4 (fun hm => hd7.out (.inl hm)))
          have hb94 := hide (hb9'.out.kept k4 (fun hm => by have := hBlt.out _ hm; omega))
          have hs3 := hide hj3.size
          have hd4 : Hid (¬ (b7 ∈ B4 ∨ b7 ∈ blkN a4 n4 ∨ b7 ∈ blks us4 ∨ b7 ∈ blkN ap4 np4)) := hide (fun hm => (hOO b7 hm).elim hd7.out (fun q => by have h1 := h7lt.out; have h2 := hs3.out; omega))
          have hH4 := hide hH4
          have hx4 := hide hx4
          have hlt4 := hide hb74.out.lt
          have h97 := hide (show wr.heap.size ≠ b7 by have := h7lt.out; omega)
          clear q0 q1 q2 q3 q4 p0 p1 p2 p3 p4 hb9' j3 hj3 k4 hOO hH3 hrow hd7 hb7
          have hn4 := hide hH4.out.lr.len
          have hp4 := hide (hH4.out.pr.rowLen rowPa)
          have hx40 := hide (show r4.next ≤ 41 by have := hx4.out; have := hN40.out; omega)
          have hl40 := hide (show r4.ls.length ≤ 41 ∧ r4.first + n4 ≤ 41 by have h1 := hx40.out; have h2 : r4.next = r4.first + r4.ls.length := rfl; have h3 := hn4.out; omega)
          go_upto_region 11 with (refine wpList_store_rg rfl rfl rfl w4.heap.size rfl (RgIn.new w4 0 0 0 none 0 0 none 0 0) (r4.limit : Nat) (r4.places : Nat) (r4.first : Nat) a4 n4 c4 ap4 np4 cp4 rfl ?_; intro w5 hb11 j5)
          have hj5 : Kept [] w4 w5 := ((Kept.refl [] w4).alloc (.cells #[.int .i64 0, .int .i64 0, .int .i64 0, .slice none 0 0, .slice none 0 0] 33)).trans j5 (by simp)
          have hH5 := hide (hH4.out.keep hj5)
          have hb75 := hide (hb74.out.kept hj5 (by simp))
          have hb95 := hide (hb94.out.kept hj5 (by simp))
          have hb11 := hide hb11
          obtain ⟨p0, p1, p2, p3, p4⟩ := hb11.out.at
          go_wp2_with fail
          refine (looks8_any b4 r4 B4 a4 n4 c4 us4 ap4 np4 cp4 w5 hH5.out.rn (by have := hx40.out; omega) (by have := hl40.out.1; omega) hH5.out.lr hp4.out).mono ?_
          rintro e w6 ⟨rfl, j6⟩
          have hH6 := hide (hH5.out.keep j6)
          have hb76 := hide (hb75.out.kept j6 (by simp))
          have hb96 := hide (hb95.out.kept j6 (by simp))
          have hb116 := hide (hb11.out.kept j6 (by simp))
          have hne : w4.heap.size ≠ b7 := by have := hlt4.out; omega
          clear p0 p1 p2 p3 p4 j5 hj5 j6 hH5 hb75 hb95 hb11
          go_upto_region 13 with fail
          refine wp_region_held_drew (S := (fun W => RgIn W w4.heap.size (r4.limit : Nat) (r4.places : Nat) (r4.first : Nat) a4 n4 c4 ap4 np4 cp4)) (by kernel_rfl) ?_ (fun hHeld => ?_)
          · (try dsimp only); (first | exact hS9 | exact hb116.out.kept (Kept.refl [] w6).drew (by simp))
          refine wpAnyH_take (i := 0) (v := ?_) rfl (by kernel_rfl) (by kernel_rfl) (by kernel_rfl) (fun _ _ _ h => h) (Or.inl ⟨by rfl, ?_⟩) (by assumption) ?_
          rotate_left
          · (intro wq hSw; (try dsimp only at hSw); go_simp; try with_reducible rfl)
          try simp only [Act.put, List.getElem_toArray, List.getElem_cons_zero, List.setIfInBounds_toArray, List.set_cons_zero, List.set_cons_succ]
          refine wpAnyH_take (i := 1) (v := (.agg #[.int .i64 (r4.limit : Nat), .int .i64 (r4.places : Nat), .int .i64 (r4.first : Nat), .slice a4 n4 c4, .slice ap4 np4 cp4])) rfl (by kernel_rfl) (by kernel_rfl) (by kernel_rfl) (fun _ _ _ h => h) (yieldsIf_load_mid (by rfl) 33 _ rfl w4.heap.size 0 rfl (rgL (r4.limit : Nat) (r4.places : Nat) (r4.first : Nat) a4 n4 c4 ap4 np4 cp4) _ (fun _ h => h.range) Tryz.underlying33 rfl (by kernel_rfl)) (by assumption) ?_
          try simp only [Act.put, List.getElem_toArray, List.getElem_cons_succ, List.getElem_cons_zero, List.setIfInBounds_toArray, List.set_cons_zero, List.set_cons_succ]
          refine wpAnyH_take (i := 2) (v := ?_) rfl (by kernel_rfl) (by kernel_rfl) (by kernel_rfl) (fun _ _ _ h => h) (Or.inl ⟨by rfl, ?_⟩) (by assumption) ?_
          rotate_left
          · (intro wq hSw; (try dsimp only at hSw); go_simp; try with_reducible rfl)
          try simp only [Act.put, List.getElem_toArray, List.getElem_cons_succ, List.getElem_cons_zero, List.setIfInBounds_toArray, List.set_cons_zero, List.set_cons_succ]
          refine wpAnyH_ready (rs := [3]) (by kernel_rfl) (by simp) ?_
          refine AllReadyH.cons rfl (fun K hK => ?_) AllReadyH.nil
          rw [if_pos (by rfl)]
          refine wp_store_rg rfl rfl b7 rfl (hb76.out.kept (Kept.refl [] w6).drew (by simp)) (r4.limit : Nat) (r4.places : Nat) (r4.first : Nat) a4 n4 c4 ap4 np4 cp4 rfl ?_; intro w9 hb99 j9; have hS9 := (hb116.out.kept (Kept.refl [] w6).drew (by simp)).kept j9 (by simpa using hne)
          refine hK.out _ _ ?_ (fun hHeld => ?_)
          · (try dsimp only); (first | exact hS9 | exact hb116.out.kept (Kept.refl [] w6).drew (by simp))
          clear hK K
          try simp only [Act.put, List.getElem_toArray, List.getElem_cons_succ, List.getElem_cons_zero, List.setIfInBounds_toArray, List.set_cons_zero, List.set_cons_succ]
          refine wpAnyH_done (by kernel_rfl) ?_ _
          have hk69 : Kept [b7] w6 w9 := (((Kept.refl [] w6).drew).mono (by simp)).trans j9 (fun y hy => .inl hy)
          have hH9 := hide (hH6.out.apart hw2.out hk69 (fun y hy => by simp at hy; subst hy; exact hw2s.out) (fun y hy hm => by simp at hm; subst hm; exact hd4.out hy))
          have hb99' := hide hb99
          have hb9 := hide (hb96.out.kept hk69 (by simpa using h97.out))
          clear hS9 j9 hk69 hH6 hb116 hb96 hb76 hb99
          obtain ⟨p0, p1, p2, p3, p4⟩ := hb99'.out.at
          obtain ⟨q0, q1, q2, q3, q4⟩ := hb9.out.at
          go_wp2_with fail
          refine (rGet8_any r4 u.nm a4 n4 c4 us4 ap4 np4 cp4 w9 hH9.out.lr (by have := hl40.out.2; omega)).mono ?_
          rintro e w10 ⟨v, rfl, hat, _, j10⟩
          clear p0 p1 p2 p3 p4 q0 q1 q2 q3 q4
          go_upto_region 15 with (refine wpList_store_lin rfl rfl rfl w10.heap.size rfl (LinIn.new w10 none 0 0 false) v.a v.n v.c v.s rfl ?_; intro w11 hb15 j11)
          have hj11 : Kept [] w9 w11 := j10.trans (((Kept.refl [] w10).alloc (.cells #[.slice none 0 0, .bool false] 36)).trans j11 (by simp)) (by simp)
          have hat := hide (hat.kept (((Kept.refl [] w10).alloc (.cells #[.slice none 0 0, .bool false] 36)).trans j11 (by simp)) (by simp))
          have hH11 := hide (hH9.out.keep hj11)
          have hb711 := hide (hb99'.out.kept hj11 (by simp))
          have hb911 := hide (hb9.out.kept hj11 (by simp))
          have hb15 := hide hb15
          clear j10 j11 hj11 hH9 hb99' hb9
          obtain ⟨p0, p1, p2, p3, p4⟩ := hb711.out.at
          obtain ⟨q0, q1, q2, q3, q4⟩ := hb911.out.at
          go_wp2_with fail
          refine (rBetween8_any r4 u.nm u.to a4 n4 c4 us4 ap4 np4 cp4 w11 hH11.out.lr hH11.out.nc hH11.out.cm (by have := hl40.out.2; omega)).mono ?_
          rintro e w12 ⟨a6, n6, c6, us6, rfl, hL6, _, _, _, j12⟩
          have hH12 := hide (hH11.out.keep j12)
          have hb712 := hide (hb711.out.kept j12 (by simp))
          have hb912 := hide (hb911.out.kept j12 (by simp))
          have hb1512 := hide (hb15.out.kept j12 (by simp))
          have hat12 := hide (hat.out.kept j12 (by simp))
          have hL6 := hide hL6
          clear p0 p1 p2 p3 p4 q0 q1 q2 q3 q4 j12 hH11 hb711 hb911 hb15 hat
          obtain ⟨q0, q1, q2, q3, q4⟩ := hb912.out.at
          obtain ⟨s0, s1⟩ := hb1512.out.at
          go_wp2_with fail
          refine (gets8_any b4 r4 B4 u.nm v.a v.n v.c v.s (getG r4 u.nm).1.l (getG r4 u.nm).2 true w12 hH12.out.rn (by have := hx40.out; omega) hat12.out.rd (by rw [hat12.out.s]; simp)).mono ?_
          rintro e w13 ⟨rfl, j13⟩
          have hH13 := hide (hH12.out.keep j13)
          have hb713 := hide (hb712.out.kept j13 (by simp))
          have hb913 := hide (hb912.out.kept j13 (by simp))
          have hL13 := hide (hL6.out.kept j13 (by simp) (by simp))
          clear q0 q1 q2 q3 q4 s0 s1 j13 hH12 hb712 hb912 hb1512 hat12 hL6
          obtain ⟨q0, q1, q2, q3, q4⟩ := hb913.out.at
          go_wp2_with fail
          refine (ranges8_any b4 r4 B4 u.nm u.to (rangeG r4 u.nm u.to).2 a6 n6 c6 us6 (rangeG r4 u.nm u.to).1 true w13 hH13.out.rn (by have := hx40.out; omega) (by have := hl40.out.1; omega) hL13.out (by simp)).mono ?_
          rintro e w14 ⟨rfl, j14⟩
          clear q0 q1 q2 q3 q4
          go_wp2_with fail
          go_roundg (N - (i + 1))
          case measure => omega
          case rel => exact ⟨i + 1, b4, r4, B4, a4, n4, c4, us4, ap4, np4, cp4, rfl, by push_cast; rfl, by omega, Nat.le_refl _, hide ⟨hH13.out.keep j14, hb713.out.kept j14 (by simp), hx4.out, hd4.out⟩⟩
        · obtain rfl : i = N := by omega
          go_wp2_with fail
          refine (hkn0.out wr hH.out.kp).mono ?_
          rintro e w9 ⟨rfl, j9⟩
          go_wp2_with fail
          go_ret
          exact ⟨rfl, hH.out.kp.trans j9 (by simp)⟩
  · have hN := hide (none8_any k1 k2 hin w)
    by_cases q1 : k1 < 0 <;> by_cases q2 : k1 > 1048576 <;> by_cases q3 : k2 < 1 <;> by_cases q4 : k2 > 1024 <;> first
      | (exfalso; omega)
      | (clear hin
         go_enter Tryz.func3, Tryz.ntmps3
         go_wp2_with fail
         refine hN.out.mono ?_
         rintro e w1 ⟨rfl, hk1⟩
         go_wp2_with fail
         refine (hkn0.out w1 hk1).mono ?_
         rintro e w2 ⟨rfl, hk2⟩
         go_wp2_with fail
         go_ret
         exact ⟨rfl, hk1.trans hk2 (by simp)⟩)
end Go.Proofs.YtnkddhmhjnhgcaaGreatDoor
