/- Layer 8: a ring beside a map that has its lines. -/
import Derived.Test.YtnkddhmhjnhgcaaDoorRnMap
namespace Go.Proofs.YtnkddhmhjnhgcaaDoor
open Go.RowKit
set_option linter.unusedVariables false
set_option maxRecDepth 100000

/-- What a ring has is there, in blocks that are not the ring's. -/
def Has (w : World) (r : Rg) (B : List Nat) (mb : Nat) (M : Int → LnA) : Prop := ∀ j (hj : j < r.ls.length), LnAt w (M ((r.first + j : Nat) : Int)) r.ls[j] ∧ ∀ y ∈ blkN (M ((r.first + j : Nat) : Int)).a (M ((r.first + j : Nat) : Int)).n, y ∉ B ∧ y ≠ mb ∧ y < w.heap.size
structure HI (w0 w : World) (b mb : Nat) (r : Rg) (M : Int → LnA) : Prop where
  tb : Tabs w
  kp : Kept [] w0 w
  m1 : w0.heap.size ≤ mb
  m2 : mb < w.heap.size
  rn : ∃ B, RN w b r B ∧ (∀ y ∈ B, w0.heap.size ≤ y) ∧ mb ∉ B ∧ Has w r B mb M
theorem evict_to (r : Rg) : ∃ m, r.evict.limit = r.limit ∧ r.evict.places = r.places ∧ r.evict.first = r.first + m ∧ r.evict.ls = r.ls.drop m :=
  ⟨_, evict_is8 _ r⟩
theorem push_to (r : Rg) (x : Ln) (hx : validL x.l = true) : (pushG r x).2 = 0 ∧ ∃ m, (pushG r x).1.limit = r.limit ∧ (pushG r x).1.places = r.places ∧ (pushG r x).1.first = r.first + m ∧ (pushG r x).1.ls = (r.ls ++ [x]).drop m ∧ (pushG r x).1.next = r.next + 1 := by
  unfold pushG
  rw [if_neg (by simp [hx])]
  obtain ⟨m, h1, h2, h3, h4⟩ := evict_to ⟨r.limit, r.places, r.first, r.ls ++ [x], addP r.places r.ps⟩
  exact ⟨rfl, m, h1, h2, h3, h4, by rw [evict_next]; simp [Rg.next]; omega⟩
theorem limit_to (r : Rg) (k : Nat) (hk : k ≤ 1048576) : (limitG r (k : Int)).2 = 0 ∧ ∃ m, (limitG r (k : Int)).1.limit = k ∧ (limitG r (k : Int)).1.places = r.places ∧ (limitG r (k : Int)).1.first = r.first + m ∧ (limitG r (k : Int)).1.ls = r.ls.drop m ∧ (limitG r (k : Int)).1.next = r.next := by
  unfold limitG
  rw [if_neg (by omega)]
  obtain ⟨m, h1, h2, h3, h4⟩ := evict_to ⟨(k : Int).toNat, r.places, r.first, r.ls, r.ps⟩
  exact ⟨rfl, m, by rw [h1]; simp, h2, h3, h4, by rw [evict_next]; rfl⟩
theorem pop_to {r : Rg} (h : r.ls ≠ []) : (popG r).1.limit = r.limit ∧ (popG r).1.places = r.places ∧ (popG r).1.first = r.first ∧ (popG r).1.ls = r.ls.dropLast ∧ (popG r).2.1 = r.ls.getLast h ∧ (popG r).2.2 = 0 := by
  unfold popG
  rw [if_neg h]
  exact ⟨rfl, rfl, rfl, rfl, by
    show r.ls.getLastD noLn = _
    generalize r.ls = l at h
    cases l with
    | nil => exact absurd rfl h
    | cons a l => rfl, rfl⟩
section
variable {w0 w w' : World} {b mb : Nat} {r r' : Rg} {B B' : List Nat} {M : Int → LnA}
theorem Has.kept (h : Has w r B mb M) {S : List Nat} (hk : Kept S w w') (hS : ∀ j (hj : j < r.ls.length), ∀ y ∈ blkN (M ((r.first + j : Nat) : Int)).a (M ((r.first + j : Nat) : Int)).n, y ∉ S) : Has w' r B mb M := fun j hj =>
  ⟨(h j hj).1.kept hk (hS j hj), fun y hy => ⟨((h j hj).2 y hy).1, ((h j hj).2 y hy).2.1, Nat.lt_of_lt_of_le ((h j hj).2 y hy).2.2 hk.size⟩⟩
theorem HI.keep (h : HI w0 w b mb r M) (hk : Kept [] w w') : HI w0 w' b mb r M := by
  obtain ⟨B, k1, k2, k3, k4⟩ := h.rn
  exact ⟨h.tb.kept hk, h.kp.trans hk (by simp), h.m1, Nat.lt_of_lt_of_le h.m2 hk.size, B, k1.kept hk (by simp), k2, k3, k4.kept hk (by simp)⟩
/-- The map has changed. -/
theorem HI.map (h : HI w0 w b mb r M) (h2 : 2 ≤ w0.heap.size) (hk : Kept [mb] w w') : HI w0 w' b mb r M := by
  obtain ⟨B, k1, k2, k3, k4⟩ := h.rn
  have := h.m1
  exact ⟨h.tb.kept2 hk (fun x hx => by simp at hx; omega), h.kp.trans hk (fun x hx => .inr (by simp at hx; omega)), h.m1, Nat.lt_of_lt_of_le h.m2 hk.size, B, k1.kept hk (fun y hy => by simp; intro e; subst e; exact k3 hy), k2, k3, k4.kept hk (fun j hj y hy => by simp; exact ((k4 j hj).2 y hy).2.1)⟩
/-- The ring has changed; of its lines the ones that were there are a part. -/
theorem HI.part (h : HI w0 w b mb r M) (h2 : 2 ≤ w0.heap.size) {B : List Nat} (k2 : ∀ y ∈ B, w0.heap.size ≤ y) (k3 : mb ∉ B) (k4 : Has w r B mb M) (m : Nat) (hf : r'.first = r.first + m) (hls : ∃ k, r'.ls = (r.ls.drop m).take k)
    (hd : ∃ B', RN w' b r' B' ∧ Kept B w w' ∧ ∀ y ∈ B', y ∈ B ∨ w.heap.size ≤ y) : HI w0 w' b mb r' M := by
  obtain ⟨B', j1, j2, j3⟩ := hd
  have hm := h.m2
  refine ⟨h.tb.kept2 j2 (fun x hx => by have := k2 x hx; omega), h.kp.trans j2 (fun x hx => .inr (k2 x hx)), h.m1, Nat.lt_of_lt_of_le h.m2 j2.size, B', j1, fun y hy => ?_, fun hy => ?_, fun j hj => ?_⟩
  · rcases j3 y hy with g | g
    · exact k2 y g
    · exact Nat.le_trans h.kp.size g
  · rcases j3 mb hy with g | g
    · exact k3 g
    · omega
  · obtain ⟨k, hk⟩ := hls
    have hj2 : m + j < r.ls.length := by rw [hk] at hj; simp at hj; omega
    have e : r'.ls[j] = r.ls[m + j] := by simp [hk]
    rw [e, show r'.first + j = r.first + (m + j) by omega]
    obtain ⟨g1, g2⟩ := k4 (m + j) hj2
    refine ⟨g1.kept j2 (fun y hy => (g2 y hy).1), fun y hy => ?_⟩
    obtain ⟨q1, q2, q3⟩ := g2 y hy
    refine ⟨fun hm => ?_, q2, Nat.lt_of_lt_of_le q3 j2.size⟩
    rcases j3 y hm with g | g
    · exact q1 g
    · omega
/-- .. or a new one more. -/
theorem HI.more {w1 : World} (h1 : HI w0 w1 b mb r M) (h2 : 2 ≤ w0.heap.size) (hk1 : Kept [] w1 w) {B : List Nat} (k0 : RN w1 b r B) (k2 : ∀ y ∈ B, w0.heap.size ≤ y) (k3 : mb ∉ B) (k40 : Has w1 r B mb M) (v : LnA) (x : Ln) (hx : LnAt w v x) (hxn : ∀ y ∈ blkN v.a v.n, w1.heap.size ≤ y ∧ y < w.heap.size) (m : Nat) (hf : r'.first = r.first + m) (hls : r'.ls = (r.ls ++ [x]).drop m)
    (hd : ∃ B', RN w' b r' B' ∧ Kept B w w' ∧ ∀ y ∈ B', y ∈ B ∨ w.heap.size ≤ y) : HI w0 w' b mb r' (fun j => if j = ((r.next : Nat) : Int) then v else M j) := by
  have h := h1.keep hk1
  have k1 := k0.kept hk1 (by simp)
  have k4 := k40.kept hk1 (by simp)
  have hm1 := h1.m2
  have hxB : ∀ y ∈ blkN v.a v.n, y ∉ B := fun y hy hm => by have := k0.lt y hm; have := (hxn y hy).1; omega
  have hxm : ∀ y ∈ blkN v.a v.n, y ≠ mb ∧ y < w.heap.size := fun y hy => ⟨by have := (hxn y hy).1; omega, (hxn y hy).2⟩
  obtain ⟨B', j1, j2, j3⟩ := hd
  have hm := h.m2
  refine ⟨h.tb.kept2 j2 (fun x hx => by have := k2 x hx; omega), h.kp.trans j2 (fun x hx => .inr (k2 x hx)), h.m1, Nat.lt_of_lt_of_le h.m2 j2.size, B', j1, fun y hy => ?_, fun hy => ?_, fun j hj => ?_⟩
  · rcases j3 y hy with g | g
    · exact k2 y g
    · exact Nat.le_trans h.kp.size g
  · rcases j3 mb hy with g | g
    · exact k3 g
    · omega
  · have hj2 : m + j < (r.ls ++ [x]).length := by rw [hls] at hj; simp at hj ⊢; omega
    have e : r'.ls[j] = (r.ls ++ [x])[m + j] := by simp [hls]
    rw [e, show r'.first + j = r.first + (m + j) by omega]
    by_cases hlt : m + j < r.ls.length
    · rw [List.getElem_append_left hlt]
      have hne : ¬ (((r.first + (m + j) : Nat) : Int) = ((r.next : Nat) : Int)) := by unfold Rg.next; omega
      simp only [if_neg hne]
      obtain ⟨g1, g2⟩ := k4 (m + j) hlt
      refine ⟨g1.kept j2 (fun y hy => (g2 y hy).1), fun y hy => ?_⟩
      obtain ⟨q1, q2, q3⟩ := g2 y hy
      refine ⟨fun hm => ?_, q2, Nat.lt_of_lt_of_le q3 j2.size⟩
      rcases j3 y hm with g | g
      · exact q1 g
      · omega
    · have he : m + j = r.ls.length := by simp at hj2; omega
      have heq : (((r.first + (m + j) : Nat) : Int) = ((r.next : Nat) : Int)) := by unfold Rg.next; omega
      have ex : (r.ls ++ [x])[m + j] = x := by simp [he]
      rw [ex]
      simp only [if_pos heq]
      refine ⟨hx.kept j2 hxB, fun y hy => ?_⟩
      obtain ⟨q2, q3⟩ := hxm y hy
      refine ⟨fun hm => ?_, q2, Nat.lt_of_lt_of_le q3 j2.size⟩
      rcases j3 y hm with g | g
      · exact hxB y hy g
      · omega
theorem HI.box (h : HI w0 w b mb r M) : ∃ a n c, RbIn w b r.limit r.places r.first r.next a n c ∧ n = r.ps.length ∧ rgOk r := by
  obtain ⟨B, k1, _⟩ := h.rn
  exact (show RP (fun _ => True) w b r from ⟨B, k1, fun _ _ => trivial⟩).box
theorem HI.ok (h : HI w0 w b mb r M) : rgOk r := by obtain ⟨a, n, c, _, _, h3⟩ := h.box; exact h3
theorem HI.first (h : HI w0 w b mb r M) (z : Int) (hz : ((r.first : Nat) : Int) = z) : Calls Tryd.prog 12 #[.pointer (some ⟨b, 0, none⟩)] w fun e w' => e = .returned (.int .i64 z) ∧ Kept [] w w' := by
  obtain ⟨a, n, c, hb, _, _⟩ := h.box
  exact (First8_any _ _ _ _ _ _ _ _ w (.inr ⟨b, rfl, hb⟩)).mono fun e w' h' => ⟨by rw [h'.1, hz], h'.2⟩
theorem HI.next (h : HI w0 w b mb r M) (z : Int) (hz : ((r.next : Nat) : Int) = z) : Calls Tryd.prog 13 #[.pointer (some ⟨b, 0, none⟩)] w fun e w' => e = .returned (.int .i64 z) ∧ Kept [] w w' := by
  obtain ⟨a, n, c, hb, _, _⟩ := h.box
  exact (Next8_any _ _ _ _ _ _ _ _ w (.inr ⟨b, rfl, hb⟩)).mono fun e w' h' => ⟨by rw [h'.1, hz], h'.2⟩
theorem HI.pages (h : HI w0 w b mb r M) (z : Int) (hz : ((r.ps.length : Nat) : Int) = z) : Calls Tryd.prog 14 #[.pointer (some ⟨b, 0, none⟩)] w fun e w' => e = .returned (.int .i64 z) ∧ Kept [] w w' := by
  obtain ⟨a, n, c, hb, hn, _⟩ := h.box
  exact (Pages8_any _ _ _ _ _ _ _ _ w (.inr ⟨b, rfl, hb⟩)).mono fun e w' h' => ⟨by rw [h'.1, hn, hz], h'.2⟩
theorem HI.len (h : HI w0 w b mb r M) (z : Int) (hz : ((r.ls.length : Nat) : Int) = z) : Calls Tryd.prog 21 #[.pointer (some ⟨b, 0, none⟩)] w fun e w' => e = .returned (.int .i64 z) ∧ Kept [] w w' := by
  obtain ⟨a, n, c, hb, hn, hok⟩ := h.box
  have h1 := hok.le
  have h2 := hok.l2
  exact (Len8_any _ _ _ _ _ _ _ _ w (.inr ⟨b, rfl, hb⟩) z (by rw [← hz, show ((r.next : Nat) : Int) - (r.first : Nat) = (r.ls.length : Nat) from by unfold Rg.next; omega, IntKind.wrap_i64]; omega)).mono fun e w' h' => h'
theorem HI.push {w1 : World} (h1 : HI w0 w1 b mb r M) (h2 : 2 ≤ w0.heap.size) (hk1 : Kept [] w1 w) (a1 : Option Addr) (n1 c1 : Nat) (x : Ln) (hx : LnAt w ⟨a1, n1, c1, x.s⟩ x) (hxn : ∀ y ∈ blkN a1 n1, w1.heap.size ≤ y ∧ y < w.heap.size) (hv : validL x.l = true) (hn : r.next ≤ 1000000000) :
    Calls Tryd.prog 22 #[.pointer (some ⟨b, 0, none⟩), .agg #[.slice a1 n1 c1, .bool x.s]] w fun e w' => e = .returned (.tuple #[.int .i64 ((r.next : Nat) : Int), .int .i64 0]) ∧ HI w0 w' b mb (pushG r x).1 (fun j => if j = ((r.next : Nat) : Int) then ⟨a1, n1, c1, x.s⟩ else M j) ∧ (∀ n M0, MapL w mb n M0 → MapL w' mb n M0) ∧ ∃ B, Kept B w w' ∧ ∀ y ∈ B, y < w1.heap.size := by
  obtain ⟨B, k0, k2, k3, k4⟩ := h1.rn
  have k1 := k0.kept hk1 (by simp)
  obtain ⟨p0, m, _, _, p3, p4, _⟩ := push_to r x hv
  obtain ⟨a, n, c, ps, hR, rfl, hl⟩ := k1
  refine (Push8_any w b r a n c ps hR hl hn a1 n1 c1 x (h1.tb.kept hk1) hx.rd (fun y hy => Nat.le_trans h2 (k2 y hy)) (fun y hy hm => by have := k0.lt y hm; have := (hxn y hy).1; omega)).mono ?_
  rintro e w' ⟨B', he, j1, j2, j3⟩
  rw [p0] at he
  exact ⟨he, h1.more h2 hk1 k0 k2 k3 k4 _ x hx hxn m p3 p4 ⟨B', j1, j2, j3⟩, fun n M0 hM => hM.kept j2 k3, _, j2, fun y hy => k0.lt y hy⟩
theorem HI.limit (h : HI w0 w b mb r M) (h2 : 2 ≤ w0.heap.size) (k : Nat) (hk : k ≤ 1048576) (hn : r.next ≤ 1000000000) :
    Calls Tryd.prog 19 #[.pointer (some ⟨b, 0, none⟩), .int .i64 (k : Int)] w fun e w' => e = .returned (.int .i64 0) ∧ HI w0 w' b mb (limitG r (k : Int)).1 M ∧ ∀ n M0, MapL w mb n M0 → MapL w' mb n M0 := by
  obtain ⟨B, k0, k2, k3, k4⟩ := h.rn
  obtain ⟨p0, m, _, _, p3, p4, _⟩ := limit_to r k hk
  obtain ⟨a, n, c, ps, hR, rfl, hl⟩ := k0
  refine (Limit8_any w b r a n c ps hR hl hn (k : Int)).mono ?_
  rintro e w' ⟨B', he, j1, j2, j3⟩
  rw [p0] at he
  exact ⟨he, h.part h2 k2 k3 k4 m p3 ⟨r.ls.length, by rw [p4, List.take_of_length_le]; simp⟩ ⟨B', j1, j2, j3⟩, fun n M0 hM => hM.kept j2 k3⟩
theorem HI.clear (h : HI w0 w b mb r M) (h2 : 2 ≤ w0.heap.size) :
    Calls Tryd.prog 20 #[.pointer (some ⟨b, 0, none⟩)] w fun e w' => e = .returned (.tuple #[]) ∧ HI w0 w' b mb (clearG r) M ∧ ∀ n M0, MapL w mb n M0 → MapL w' mb n M0 := by
  obtain ⟨B, k0, k2, k3, k4⟩ := h.rn
  obtain ⟨a, n, c, ps, hR, rfl, hl⟩ := k0
  refine (Clear8_any w b r a n c ps hR).mono ?_
  rintro e w' ⟨B', he, j1, j2, j3⟩
  exact ⟨he, h.part h2 k2 k3 k4 r.ls.length rfl ⟨0, by simp [clearG]⟩ ⟨B', j1, j2, j3⟩, fun n M0 hM => hM.kept j2 k3⟩
theorem HI.pop (h : HI w0 w b mb r M) (h2 : 2 ≤ w0.heap.size) (hn : r.next ≤ 1000000000) (hls : r.ls ≠ []) :
    Calls Tryd.prog 18 #[.pointer (some ⟨b, 0, none⟩)] w fun e w' => ∃ a4 n4 c4 s4, e = .returned (.tuple #[.agg #[.slice a4 n4 c4, .bool s4], .int .i64 0]) ∧ HI w0 w' b mb (popG r).1 M ∧ (∀ n M0, MapL w mb n M0 → MapL w' mb n M0) ∧ (popG r).1.limit = r.limit ∧ (popG r).1.places = r.places ∧ (popG r).1.next + 1 = r.next ∧ ∃ x, LnAt w' ⟨a4, n4, c4, s4⟩ x ∧ LnAt w' (M (((popG r).1.next : Nat) : Int)) x ∧ x.l.length ≤ 1000000 := by
  obtain ⟨B, k0, k2, k3, k4⟩ := h.rn
  obtain ⟨p1, p2, p3, p4, p5, p6⟩ := pop_to hls
  obtain ⟨a, n, c, ps, hR, rfl, hl⟩ := k0
  refine (Pop8_any w b r a n c ps hR hl hn).mono ?_
  rintro e w' ⟨B', a4, n4, c4, he, hat, _, _, j1, j2, j3⟩
  rw [p6] at he
  have hlen : 0 < r.ls.length := List.length_pos_iff.2 hls
  have hnx : (popG r).1.next + 1 = r.next := by unfold Rg.next; rw [p3, p4, List.length_dropLast]; omega
  obtain ⟨g1, g2⟩ := k4 (r.ls.length - 1) (by omega)
  have g3 := g1.kept j2 (fun y hy => (g2 y hy).1)
  rw [show r.first + (r.ls.length - 1) = (popG r).1.next by unfold Rg.next at *; omega] at g3
  refine ⟨a4, n4, c4, _, he, h.part h2 k2 k3 k4 0 (by rw [p3]; rfl) ⟨r.ls.length - 1, by rw [p4, List.drop_zero, List.dropLast_eq_take]⟩ ⟨B', j1, j2, j3⟩, fun n M0 hM => hM.kept j2 k3, p1, p2, hnx, _, hat, ?_, ?_⟩
  · rw [p5, List.getLast_eq_getElem]
    exact g3
  · rw [p5]
    have := valid_len (h.ok.val _ (List.getLast_mem hls))
    omega
theorem HI.popNone (h : HI w0 w b mb r M) (h2 : 2 ≤ w0.heap.size) (hn : r.next ≤ 1000000000) (hls : r.ls = []) :
    Calls Tryd.prog 18 #[.pointer (some ⟨b, 0, none⟩)] w fun e w' => ∃ a4 n4 c4, e = .returned (.tuple #[.agg #[.slice a4 n4 c4, .bool false], .int .i64 9]) ∧ HI w0 w' b mb r M ∧ ∀ n M0, MapL w mb n M0 → MapL w' mb n M0 := by
  obtain ⟨B, k0, k2, k3, k4⟩ := h.rn
  have hp : popG r = (r, noLn, 9) := by unfold popG; rw [if_pos hls]
  obtain ⟨a, n, c, ps, hR, rfl, hl⟩ := k0
  refine (Pop8_any w b r a n c ps hR hl hn).mono ?_
  rintro e w' ⟨B', a4, n4, c4, he, _, _, _, j1, j2, j3⟩
  rw [hp] at he j1
  exact ⟨a4, n4, c4, he, h.part h2 k2 k3 k4 0 rfl ⟨r.ls.length, by rw [List.drop_zero, List.take_length]⟩ ⟨B', j1, j2, j3⟩, fun n M0 hM => hM.kept j2 k3⟩
theorem HI.gets (h : HI w0 w b mb r M) (hn : r.next ≤ 1000000000) (k : Nat) (h1 : r.first ≤ k) (h3 : k < r.next) :
    Calls Tryd.prog 17 #[.pointer (some ⟨b, 0, none⟩), .int .i64 (k : Int), lvV (M (k : Int)), .int .i64 0] w fun e w' => e = .returned (.bool true) ∧ Kept [] w w' := by
  obtain ⟨B, k0, k2, k3, k4⟩ := h.rn
  have hj : k - r.first < r.ls.length := by unfold Rg.next at h3; omega
  obtain ⟨g1, g2⟩ := k4 (k - r.first) hj
  rw [show r.first + (k - r.first) = k by omega] at g1
  have hg : getG r (k : Int) = (r.ls[k - r.first], 0) := by
    have ha : atG r (k : Int) = 0 := by unfold atG; rw [if_neg (by omega), if_neg (by omega)]
    unfold getG
    rw [ha, if_pos rfl]
    simp [hj]
  exact gets8_any b r B (k : Int) _ _ _ _ r.ls[k - r.first].l 0 true w k0 hn g1.rd (by rw [hg, ← g1.s]; simp)
end
end Go.Proofs.YtnkddhmhjnhgcaaDoor
