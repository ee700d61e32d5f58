/- Layer 8: rings all of whose blocks are such; only such blocks have changed: the law's helpers and the ring's functions asked so. -/
import Derived.Test.YtnkddhmhjnhgcaaGreatDoorRnNLaw
namespace Go.Proofs.YtnkddhmhjnhgcaaGreatDoor
open Go.RowKit
set_option linter.unusedVariables false
set_option linter.unusedSimpArgs false
set_option maxRecDepth 100000

def RP (ok : Nat → Prop) (w : World) (b : Nat) (r : Rg) : Prop := ∃ B, RN w b r B ∧ ∀ y ∈ B, ok y
def KO (ok : Nat → Prop) (w w' : World) : Prop := ∃ S, Kept S w w' ∧ ∀ y ∈ S, ok y
section
variable {ok : Nat → Prop} {w w' w2 : World} {b : Nat} {r : Rg}
theorem KO.of (h : Kept [] w w') : KO ok w w' := ⟨[], h, by simp⟩
theorem KO.trans (h : KO ok w w') (k : KO ok w' w2) : KO ok w w2 := by
  obtain ⟨S, h1, h2⟩ := h
  obtain ⟨T, k1, k2⟩ := k
  exact ⟨S ++ T, (h1.mono (fun y hy => .inl (List.mem_append_left _ hy))).trans k1 (fun y hy => .inl (List.mem_append_right _ hy)), fun y hy => (List.mem_append.1 hy).elim (h2 y) (k2 y)⟩
theorem KO.size (h : KO ok w w') : w.heap.size ≤ w'.heap.size := by obtain ⟨S, h1, _⟩ := h; exact h1.size
theorem KO.lin (h : KO ok w w') {g : Nat} {a : Option Addr} {n c : Nat} {x : Bool} (hl : LinIn w g a n c x) (hg : ¬ ok g) : LinIn w' g a n c x := by
  obtain ⟨S, h1, h2⟩ := h
  exact hl.kept h1 (fun hm => hg (h2 g hm))
theorem KO.rd (h : KO ok w w') {a : Option Addr} {n k : Nat} {xs : List Value} (hl : Rd w a n k xs) (hg : ∀ y ∈ blk a, ¬ ok y) : Rd w' a n k xs := by
  obtain ⟨S, h1, h2⟩ := h
  exact hl.kept h1 (fun y hy hm => hg y hy (h2 y hm))
theorem KO.lns (h : KO ok w w') {vs : List LnA} {xs : List Ln} (hl : LnsAt w vs xs) (hg : ∀ y ∈ blks vs, ¬ ok y) : LnsAt w' vs xs := by
  obtain ⟨S, h1, h2⟩ := h
  exact hl.kept h1 (fun y hy hm => hg y hy (h2 y hm))
theorem KO.tabs (h : KO ok w w') (ht : Tabs w) (h0 : ¬ ok 0) (h1 : ¬ ok 1) : Tabs w' := by
  obtain ⟨S, k1, k2⟩ := h
  exact ht.kept2 k1 (fun x hx => by
    have := k2 x hx
    rcases Nat.lt_or_ge x 2 with h | h
    · rcases (show x = 0 ∨ x = 1 by omega) with rfl | rfl
      · exact absurd this h0
      · exact absurd this h1
    · exact h)
/-- Where such blocks are new, nothing that there was has changed. -/
theorem KO.none (h : KO ok w w') {w0 : World} (h0 : Kept [] w0 w) (hn : ∀ y, ok y → w0.heap.size ≤ y) : Kept [] w0 w' := by
  obtain ⟨S, h1, h2⟩ := h
  exact h0.trans h1 (fun y hy => .inr (hn y (h2 y hy)))
theorem RP.keep (hp : RP ok w b r) (hk : Kept [] w w') : RP ok w' b r := by
  obtain ⟨B, h1, h2⟩ := hp
  exact ⟨B, h1.kept hk (by simp), h2⟩
theorem RP.mono {ok' : Nat → Prop} (hp : RP ok w b r) (h : ∀ y, y < w.heap.size → ok y → ok' y) : RP ok' w b r := by
  obtain ⟨B, h1, h2⟩ := hp
  exact ⟨B, h1, fun y hy => h y (h1.lt y hy) (h2 y hy)⟩
theorem give8 (hn : ∀ y, w.heap.size ≤ y → ok y) {B B' : List Nat} (hB : ∀ y ∈ B, ok y) (h : ∀ y ∈ B', y ∈ B ∨ w.heap.size ≤ y) : ∀ y ∈ B', ok y := fun y hy => (h y hy).elim (hB y) (hn y)
theorem two8 (h0 : ¬ ok 0) (h1 : ¬ ok 1) {B : List Nat} (hB : ∀ y ∈ B, ok y) : ∀ y ∈ B, 2 ≤ y := fun y hy => by
  have := hB y hy
  rcases Nat.lt_or_ge y 2 with h | h
  · rcases (show y = 0 ∨ y = 1 by omega) with rfl | rfl
    · exact absurd this h0
    · exact absurd this h1
  · exact h
theorem RP.box (hp : RP ok w b r) : ∃ a n c, RbIn w b r.limit r.places r.first r.next a n c ∧ n = r.ps.length ∧ rgOk r := by
  obtain ⟨B, h1, h2⟩ := hp
  have hok := h1.ok
  obtain ⟨a, n, c, ps, h, _, _⟩ := h1
  exact ⟨a, n, c, h.box, by rw [← h.pa]; simp [shs]; exact h.plen.symm, hok⟩
theorem pushes_n (hp : RP ok w b r) (hn : ∀ y, w.heap.size ≤ y → ok y) (h0 : ¬ ok 0) (h1 : ¬ ok 1) (ht : Tabs w) (a1 : Option Addr) (n1 c1 : Nat) (x : Ln) (hr1 : Rd w a1 n1 16 (cellsV x.l)) (hd : ∀ y ∈ blk a1, ¬ ok y) (want no : Int) (v : Bool) (r' : Rg) (hx : r.next ≤ 1000000000) (hs : (pushG r x).1 = r') (hv : (decide ((if (pushG r x).2 = 0 then ((r.next : Nat) : Int) else 0) = want) && decide ((pushG r x).2 = no)) = v) :
    Calls Tryz.prog 15 #[.pointer (some ⟨b, 0, none⟩), .agg #[.slice a1 n1 c1, .bool x.s], .int .i64 want, .int .i64 no] w fun e w' => e = .returned (.bool v) ∧ RP ok w' b r' ∧ KO ok w w' := by
  obtain ⟨B, k1, k2⟩ := hp
  refine (pushes8_any b r B a1 n1 c1 x want no v w k1 hx ht hr1 (two8 h0 h1 k2) (fun y hy hm => hd y (blkN_sub'' hy) (k2 y hm)) hv).mono ?_
  rintro e w' ⟨he, B', j1, j2, j3⟩
  exact ⟨he, ⟨B', hs ▸ j1, give8 hn k2 j3⟩, ⟨B, j2, k2⟩⟩
theorem pops_n (hp : RP ok w b r) (hn : ∀ y, w.heap.size ≤ y → ok y) (a2 : Option Addr) (n2 c2 : Nat) (s2 : Bool) (m : List Cl) (no : Int) (v : Bool) (hr2 : Rd w a2 n2 16 (cellsV m)) (hd : ∀ y ∈ blk a2, ¬ ok y) (r' : Rg) (hx : r.next ≤ 1000000000) (hs : (popG r).1 = r') (hv : (decide ((popG r).2.1.s = s2 ∧ (popG r).2.1.l = m) && decide ((popG r).2.2 = no)) = v) :
    Calls Tryz.prog 19 #[.pointer (some ⟨b, 0, none⟩), .agg #[.slice a2 n2 c2, .bool s2], .int .i64 no] w fun e w' => e = .returned (.bool v) ∧ RP ok w' b r' ∧ KO ok w w' := by
  obtain ⟨B, k1, k2⟩ := hp
  refine (pops8_any b r B a2 n2 c2 s2 m no v w k1 hx hr2 (fun y hy hm => hd y hy (k2 y hm)) hv).mono ?_
  rintro e w' ⟨he, B', j1, j2, j3⟩
  exact ⟨he, ⟨B', hs ▸ j1, give8 hn k2 j3⟩, ⟨B, j2, k2⟩⟩
theorem gets_n (hp : RP ok w b r) (i : Int) (a2 : Option Addr) (n2 c2 : Nat) (s2 : Bool) (m : List Cl) (no : Int) (v : Bool) (hr2 : Rd w a2 n2 16 (cellsV m)) (hx : r.next ≤ 1000000000) (hv : (decide ((getG r i).1.s = s2 ∧ (getG r i).1.l = m) && decide ((getG r i).2 = no)) = v) :
    Calls Tryz.prog 12 #[.pointer (some ⟨b, 0, none⟩), .int .i64 i, .agg #[.slice a2 n2 c2, .bool s2], .int .i64 no] w fun e w' => e = .returned (.bool v) ∧ RP ok w' b r ∧ KO ok w w' := by
  obtain ⟨B, k1, k2⟩ := hp
  refine (gets8_any b r B i a2 n2 c2 s2 m no v w k1 hx hr2 hv).mono ?_
  rintro e w' ⟨he, hk⟩
  exact ⟨he, RP.keep ⟨B, k1, k2⟩ hk, .of hk⟩
theorem ranges_n (hp : RP ok w b r) (f t no : Int) (a2 : Option Addr) (n2 c2 : Nat) (us : List LnA) (ys : List Ln) (v : Bool) (hr2 : LnsR w a2 n2 us ys) (hx : r.next ≤ 1000000000) (hls : r.ls.length ≤ 1000000) (hv : (decide ((rangeG r f t).1 = ys) && decide ((rangeG r f t).2 = no)) = v) :
    Calls Tryz.prog 13 #[.pointer (some ⟨b, 0, none⟩), .int .i64 f, .int .i64 t, .int .i64 no, .slice a2 n2 c2] w fun e w' => e = .returned (.bool v) ∧ RP ok w' b r ∧ KO ok w w' := by
  obtain ⟨B, k1, k2⟩ := hp
  refine (ranges8_any b r B f t no a2 n2 c2 us ys v w k1 hx hls hr2 hv).mono ?_
  rintro e w' ⟨he, hk⟩
  exact ⟨he, RP.keep ⟨B, k1, k2⟩ hk, .of hk⟩
theorem set_n (hp : RP ok w b r) (hn : ∀ y, w.heap.size ≤ y → ok y) (ht : Tabs w) (k : Int) (a1 : Option Addr) (n1 c1 : Nat) (x : Ln) (hr1 : Rd w a1 n1 16 (cellsV x.l)) (r' : Rg) (z : Int) (hx : r.next ≤ 1000000000) (hs : setG r k x = (r', z)) :
    Calls Tryz.prog 21 #[.pointer (some ⟨b, 0, none⟩), .int .i64 k, .agg #[.slice a1 n1 c1, .bool x.s]] w fun e w' => e = .returned (.int .i64 z) ∧ RP ok w' b r' ∧ KO ok w w' := by
  obtain ⟨B, ⟨a, n, c, ps, h, rfl, hl⟩, k2⟩ := hp
  refine (Set8_any w b r a n c ps h hl hx k a1 n1 c1 x ht hr1).mono ?_
  rintro e w' ⟨B', he, j1, j2, j3⟩
  rw [hs] at he j1
  exact ⟨he, ⟨B', j1, give8 hn k2 j3⟩, ⟨_, j2, k2⟩⟩
theorem limit_n (hp : RP ok w b r) (hn : ∀ y, w.heap.size ≤ y → ok y) (k : Int) (r' : Rg) (z : Int) (hx : r.next ≤ 1000000000) (hs : limitG r k = (r', z)) :
    Calls Tryz.prog 20 #[.pointer (some ⟨b, 0, none⟩), .int .i64 k] w fun e w' => e = .returned (.int .i64 z) ∧ RP ok w' b r' ∧ KO ok w w' := by
  obtain ⟨B, ⟨a, n, c, ps, h, rfl, hl⟩, k2⟩ := hp
  refine (Limit8_any w b r a n c ps h hl hx k).mono ?_
  rintro e w' ⟨B', he, j1, j2, j3⟩
  rw [hs] at he j1
  exact ⟨he, ⟨B', j1, give8 hn k2 j3⟩, ⟨_, j2, k2⟩⟩
theorem clear_n (hp : RP ok w b r) (hn : ∀ y, w.heap.size ≤ y → ok y) (r' : Rg) (hs : clearG r = r') :
    Calls Tryz.prog 22 #[.pointer (some ⟨b, 0, none⟩)] w fun e w' => e = .returned (.tuple #[]) ∧ RP ok w' b r' ∧ KO ok w w' := by
  obtain ⟨B, ⟨a, n, c, ps, h, rfl, hl⟩, k2⟩ := hp
  refine (Clear8_any w b r a n c ps h).mono ?_
  rintro e w' ⟨B', he, j1, j2, j3⟩
  exact ⟨he, ⟨B', hs ▸ j1, give8 hn k2 j3⟩, ⟨_, j2, k2⟩⟩
theorem first_n (hp : RP ok w b r) (z : Int) (hz : ((r.first : Nat) : Int) = z) : Calls Tryz.prog 17 #[.pointer (some ⟨b, 0, none⟩)] w fun e w' => e = .returned (.int .i64 z) ∧ RP ok w' b r ∧ KO ok w w' := by
  obtain ⟨a, n, c, hb, _, _⟩ := hp.box
  refine (First8_any _ _ _ _ _ _ _ _ w (.inr ⟨b, rfl, hb⟩)).mono ?_
  rintro e w' ⟨he, hk⟩
  exact ⟨by rw [he, hz], hp.keep hk, .of hk⟩
theorem next_n (hp : RP ok w b r) (z : Int) (hz : ((r.next : Nat) : Int) = z) : Calls Tryz.prog 18 #[.pointer (some ⟨b, 0, none⟩)] w fun e w' => e = .returned (.int .i64 z) ∧ RP ok w' b r ∧ KO ok w w' := by
  obtain ⟨a, n, c, hb, _, _⟩ := hp.box
  refine (Next8_any _ _ _ _ _ _ _ _ w (.inr ⟨b, rfl, hb⟩)).mono ?_
  rintro e w' ⟨he, hk⟩
  exact ⟨by rw [he, hz], hp.keep hk, .of hk⟩
theorem most_n (hp : RP ok w b r) (z : Int) (hz : ((r.limit : Nat) : Int) = z) : Calls Tryz.prog 35 #[.pointer (some ⟨b, 0, none⟩)] w fun e w' => e = .returned (.int .i64 z) ∧ RP ok w' b r ∧ KO ok w w' := by
  obtain ⟨a, n, c, hb, _, _⟩ := hp.box
  refine (Most8_any _ _ _ _ _ _ _ _ w (.inr ⟨b, rfl, hb⟩)).mono ?_
  rintro e w' ⟨he, hk⟩
  exact ⟨by rw [he, hz], hp.keep hk, .of hk⟩
theorem pages_n (hp : RP ok w b r) (z : Int) (hz : ((r.ps.length : Nat) : Int) = z) : Calls Tryz.prog 16 #[.pointer (some ⟨b, 0, none⟩)] w fun e w' => e = .returned (.int .i64 z) ∧ RP ok w' b r ∧ KO ok w w' := by
  obtain ⟨a, n, c, hb, hn, _⟩ := hp.box
  refine (Pages8_any _ _ _ _ _ _ _ _ w (.inr ⟨b, rfl, hb⟩)).mono ?_
  rintro e w' ⟨he, hk⟩
  exact ⟨by rw [he, hn, hz], hp.keep hk, .of hk⟩
theorem len_n (hp : RP ok w b r) (z : Int) (hz : ((r.ls.length : Nat) : Int) = z) : Calls Tryz.prog 23 #[.pointer (some ⟨b, 0, none⟩)] w fun e w' => e = .returned (.int .i64 z) ∧ RP ok w' b r ∧ KO ok w w' := by
  obtain ⟨a, n, c, hb, hn, hok⟩ := hp.box
  have h1 := hok.le
  have h2 := hok.l2
  refine (Len8_any _ _ _ _ _ _ _ _ w (.inr ⟨b, rfl, hb⟩) z (by rw [← hz, show ((r.next : Nat) : Int) - (r.first : Nat) = (r.ls.length : Nat) from by unfold Rg.next; omega, IntKind.wrap_i64]; omega)).mono ?_
  rintro e w' ⟨he, hk⟩
  exact ⟨he, hp.keep hk, .of hk⟩
theorem copy_n (hp : RP ok w b r) (hx : r.next ≤ 1000000000) : Calls Tryz.prog 33 #[.pointer (some ⟨b, 0, none⟩)] w (Copy8Ret r w) := by
  obtain ⟨B, ⟨a, n, c, ps, h, rfl, hl⟩, k2⟩ := hp
  exact Copy8_any w b r a n c ps h hl hx
end
def ln1 (k : Int) : Ln := ⟨[runeC k], false⟩
/-- A line of one rune in a box. -/
structure One (ok : Nat → Prop) (W : World) (b g c : Nat) (l : Cl) : Prop where
  li : LinIn W b (some ⟨g, 0, none⟩) 1 c false
  rd : Rd W (some ⟨g, 0, none⟩) 1 16 (cellsV [l])
  nb : ¬ ok b
  ng : ¬ ok g
  c1 : 1 ≤ c
  c2 : c ≤ maxLen
theorem One.kept {ok : Nat → Prop} {w w' : World} {b g c : Nat} {l : Cl} (h : One ok w b g c l) (hk : KO ok w w') : One ok w' b g c l :=
  ⟨hk.lin h.li h.nb, hk.rd h.rd (by simp [blk]; exact h.ng), h.nb, h.ng, h.c1, h.c2⟩
structure Kn8 (ok : Nat → Prop) (W : World) (b1 g1 c1 b2 g2 c2 b3 g3 c3 b4 g4 c4 b5 g5 c5 : Nat) : Prop where
  tb : Tabs W
  t0 : ¬ ok 0
  t1 : ¬ ok 1
  o1 : One ok W b1 g1 c1 (runeC 97)
  o2 : One ok W b2 g2 c2 (runeC 98)
  o3 : One ok W b3 g3 c3 (runeC 99)
  o4 : One ok W b4 g4 c4 (runeC 100)
  o5 : One ok W b5 g5 c5 (runeC 101)
  nw : ∀ y, W.heap.size ≤ y → ok y
theorem Kn8.kept {ok : Nat → Prop} {w w' : World} {b1 g1 c1 b2 g2 c2 b3 g3 c3 b4 g4 c4 b5 g5 c5 : Nat} (h : Kn8 ok w b1 g1 c1 b2 g2 c2 b3 g3 c3 b4 g4 c4 b5 g5 c5) (hk : KO ok w w') : Kn8 ok w' b1 g1 c1 b2 g2 c2 b3 g3 c3 b4 g4 c4 b5 g5 c5 :=
  ⟨hk.tabs h.tb h.t0 h.t1, h.t0, h.t1, h.o1.kept hk, h.o2.kept hk, h.o3.kept hk, h.o4.kept hk, h.o5.kept hk, fun y hy => h.nw y (Nat.le_trans hk.size hy)⟩
theorem one_ng {ok : Nat → Prop} {W : World} {b g c : Nat} {l : Cl} (h : One ok W b g c l) : ∀ y ∈ blk (some ⟨g, 0, none⟩), ¬ ok y := fun y hy => by simp [blk] at hy; subst hy; exact h.ng
theorem lns_1 {ok : Nat → Prop} {W : World} {b1 g1 c1 g : Nat} {l : Cl} (h1 : One ok W b1 g1 c1 l) (hr : Rd W (some ⟨g, 0, none⟩) 1 2 (rowsV lnV [⟨some ⟨g1, 0, none⟩, 1, c1, false⟩])) : LnsR W (some ⟨g, 0, none⟩) 1 [⟨some ⟨g1, 0, none⟩, 1, c1, false⟩] [⟨[l], false⟩] :=
  ⟨hr, .cons ⟨h1.rd, rfl, h1.c1, h1.c2⟩ .nil⟩
theorem lns_3 {ok : Nat → Prop} {W : World} {b1 g1 c1 b2 g2 c2 b3 g3 c3 g : Nat} {l m k : Cl} (h1 : One ok W b1 g1 c1 l) (h2 : One ok W b2 g2 c2 m) (h3 : One ok W b3 g3 c3 k) (hr : Rd W (some ⟨g, 0, none⟩) 3 2 (rowsV lnV [⟨some ⟨g1, 0, none⟩, 1, c1, false⟩, ⟨some ⟨g2, 0, none⟩, 1, c2, false⟩, ⟨some ⟨g3, 0, none⟩, 1, c3, false⟩])) : LnsR W (some ⟨g, 0, none⟩) 3 [⟨some ⟨g1, 0, none⟩, 1, c1, false⟩, ⟨some ⟨g2, 0, none⟩, 1, c2, false⟩, ⟨some ⟨g3, 0, none⟩, 1, c3, false⟩] [⟨[l], false⟩, ⟨[m], false⟩, ⟨[k], false⟩] :=
  ⟨hr, .cons ⟨h1.rd, rfl, h1.c1, h1.c2⟩ (.cons ⟨h2.rd, rfl, h2.c1, h2.c2⟩ (.cons ⟨h3.rd, rfl, h3.c1, h3.c2⟩ .nil))⟩
def k0 : Rg := ⟨3, 2, 0, [], []⟩
def k1 : Rg := ⟨3, 2, 0, [ln1 97], [⟨0, 1⟩]⟩
def k2 : Rg := ⟨3, 2, 0, [ln1 97, ln1 98], [⟨0, 2⟩]⟩
def k3 : Rg := ⟨3, 2, 0, [ln1 97, ln1 98, ln1 99], [⟨0, 2⟩, ⟨0, 1⟩]⟩
def k4 : Rg := ⟨3, 2, 1, [ln1 98, ln1 99, ln1 100], [⟨1, 1⟩, ⟨0, 2⟩]⟩
def k5 : Rg := ⟨3, 2, 2, [ln1 99, ln1 100, ln1 101], [⟨0, 2⟩, ⟨0, 1⟩]⟩
def k6 : Rg := ⟨3, 2, 2, [ln1 99, ln1 100], [⟨0, 2⟩]⟩
def k7 : Rg := ⟨3, 2, 2, [ln1 99, ln1 100, ln1 97], [⟨0, 2⟩, ⟨0, 1⟩]⟩
def k8 : Rg := ⟨1, 2, 4, [ln1 97], [⟨0, 1⟩]⟩
def k9 : Rg := ⟨1, 2, 4, [ln1 98], [⟨0, 1⟩]⟩
def k10 : Rg := ⟨1, 2, 5, [], []⟩
def k11 : Rg := ⟨1, 2, 5, [ln1 99], [⟨0, 1⟩]⟩
def m0 : Rg := ⟨0, 4, 0, [], []⟩
def m1 : Rg := ⟨0, 4, 1, [], []⟩
theorem k_push : pushG k0 (ln1 97) = (k1, 0) ∧ pushG k1 (ln1 98) = (k2, 0) ∧ pushG k2 (ln1 99) = (k3, 0) ∧ pushG k3 (ln1 100) = (k4, 0) ∧ pushG k4 (ln1 101) = (k5, 0) ∧ pushG k6 (ln1 97) = (k7, 0) ∧ pushG k10 (ln1 99) = (k11, 0) ∧ pushG m0 (ln1 97) = (m1, 0) := by decide +kernel
theorem k_rest : popG k5 = (k6, ln1 101, 0) ∧ limitG k7 1 = (k8, 0) ∧ setG k8 4 (ln1 98) = (k9, 0) ∧ clearG k9 = k10 ∧ popG k10 = (k10, noLn, 9) ∧ limitG k11 (-1) = (k11, 2) := by decide +kernel
end Go.Proofs.YtnkddhmhjnhgcaaGreatDoor
