/- Layer 9: places compared, asked, and the small functions. -/
import Derived.Test.YtnkddhmhjnhgcaaDoorPlMath
import Derived.Test.YtnkddhmhjnhgcaaDoorUtil
import Derived.Test.YtnkddhmhjnhgcaaDoorRows
import Derived.Deep.RegionHeld3
import Derived.Deep.Cut
import Derived.IntWalk
namespace Go.Proofs.YtnkddhmhjnhgcaaDoor
open Go.RowKit
set_option linter.unusedVariables false
set_option linter.unusedSimpArgs false
set_option maxRecDepth 100000

theorem isNaN_any (x : Int) (w : World) : Calls Tryd.prog 78 #[.int .i64 x] w fun e w' => e = .returned (.bool false) ∧ w' = w := by
  go_enter Tryd.func78, Tryd.ntmps78
  go_wp2_with fail
  go_ret
  exact ⟨by simp, rfl⟩
theorem cmpInt_any (a b : Int) (w : World) : Calls Tryd.prog 56 #[.int .i64 a, .int .i64 b] w fun e w' => e = .returned (.int .i64 (cmpI a b)) ∧ w' = w := by
  have hc := hide (cmpI_cases a b)
  generalize cmpI a b = R at *
  go_enter Tryd.func56, Tryd.ntmps56
  go_wp2_with fail
  refine (isNaN_any _ _).mono ?_
  rintro e w1 ⟨rfl, rfl⟩
  go_wp2_with fail
  refine (isNaN_any _ _).mono ?_
  rintro e w1 ⟨rfl, rfl⟩
  rcases hc.out with ⟨h, rfl⟩ | ⟨h, rfl⟩ | ⟨h, rfl⟩
  · go_wp2_with fail
    go_ret
    exact ⟨rfl, rfl⟩
  · have h2 : ¬ a < b := by omega
    go_wp2_with fail
    go_ret
    exact ⟨rfl, rfl⟩
  · have h2 : ¬ a < b := by omega
    have h3 : ¬ b < a := by omega
    clear hc h
    go_wp2_with fail
    go_ret
    exact ⟨rfl, rfl⟩
theorem orInt_any (x y R : Int) (b c : Nat) (w : World) (hR0 : (if x = 0 then y else x) = R) (h0 : w.cell? ⟨b, 0, none⟩ = some (.int .i64 x)) (h1 : w.cell? ⟨b, 1, none⟩ = some (.int .i64 y)) :
    Calls Tryd.prog 55 #[.slice (some ⟨b, 0, none⟩) 2 c] w fun e w' => e = .returned (.int .i64 R) ∧ w' = w := by
  have hR := hide hR0.symm
  clear hR0
  have e0 : (0 : Int) < 2 := by decide
  go_enter Tryd.func55, Tryd.ntmps55
  go_wp2_with fail
  refine wp_loop_rounds 4 ?_
  rw [rounds_succ]
  by_cases hx : x = 0
  · have ex : (x != 0) = false := by simpa using hx
    have hx' := hide hx
    clear hx
    go_wp2_with fail
    rw [rounds_succ]
    by_cases hy : y = 0
    · have ey : (y != 0) = false := by simpa using hy
      have hy' := hide hy
      clear hy
      go_wp2_with fail
      rw [rounds_succ]
      go_wp2_with fail
      go_ret
      refine ⟨(?_ : Ending.returned (.int .i64 0) = _), rfl⟩
      exact ret_int (by rw [hR.out, if_pos hx'.out, hy'.out])
    · have ey : (y != 0) = true := by simpa using hy
      clear hy
      go_wp2_with fail
      go_ret
      refine ⟨(?_ : Ending.returned (.int .i64 y) = _), rfl⟩
      exact ret_int (by rw [hR.out, if_pos hx'.out])
  · have ex : (x != 0) = true := by simpa using hx
    have hx' := hide hx
    clear hx
    go_wp2_with fail
    go_ret
    refine ⟨(?_ : Ending.returned (.int .i64 x) = _), rfl⟩
    exact ret_int (by rw [hR.out, if_neg hx'.out])
/-- At block b lies a place. -/
structure PlIn (w : World) (b : Nat) (p : Pl) : Prop where
  a0 : w.cell? ⟨b, 0, none⟩ = some (.int .i64 p.l)
  a1 : w.cell? ⟨b, 1, none⟩ = some (.int .i64 p.c)
theorem PlIn.kept {S : List Nat} {w w' : World} {b : Nat} {p : Pl} (h : PlIn w b p) (hk : Kept S w w') (hb : b ∉ S) : PlIn w' b p := ⟨hk.cell h.a0 hb, hk.cell h.a1 hb⟩
set_option maxHeartbeats 1000000 in
theorem Compare_any (a b : Pl) (w : World) : Calls Tryd.prog 26 #[.agg #[.int .i64 a.l, .int .i64 a.c], .agg #[.int .i64 b.l, .int .i64 b.c]] w fun e w' => e = .returned (.int .i64 (cmpP a b)) ∧ Kept [] w w' := by
  obtain ⟨al, ac⟩ := a
  obtain ⟨bl, bc⟩ := b
  have hR := hide (show cmpP ⟨al, ac⟩ ⟨bl, bc⟩ = if cmpI al bl = 0 then cmpI ac bc else cmpI al bl from rfl)
  have hC := hide (fun x y w => cmpInt_any x y w)
  generalize cmpP ⟨al, ac⟩ ⟨bl, bc⟩ = R at *
  go_enter Tryd.func26, Tryd.ntmps26
  go_wp2_with fail
  obtain ⟨W0, hW0⟩ : ∃ x : World, x = (w.alloc (.cells #[.int .i64 al, .int .i64 ac] 49)).alloc (.cells #[.int .i64 bl, .int .i64 bc] 49) := ⟨_, rfl⟩
  have hk0 : Kept [] w W0 := by rw [hW0]; exact ((Kept.refl [] w).alloc _).alloc _
  have e0 : W0.cell? ⟨w.heap.size, 0, none⟩ = some (.int .i64 al) := by rw [hW0]; simp [go_sem]
  have e1 : W0.cell? ⟨w.heap.size, 1, none⟩ = some (.int .i64 ac) := by rw [hW0]; simp [go_sem]
  have e2 : W0.cell? ⟨w.heap.size + 1, 0, none⟩ = some (.int .i64 bl) := by rw [hW0]; simp [go_sem]
  have e3 : W0.cell? ⟨w.heap.size + 1, 1, none⟩ = some (.int .i64 bc) := by rw [hW0]; simp [go_sem]
  rw [← hW0]
  clear hW0
  generalize w.heap.size = B at *
  have hz0 : ∀ u v : Value, ((W0.alloc (.cells #[u, v] 3)).drew).cell? ⟨W0.heap.size, 0, none⟩ = some u := fun u v => by simp [go_sem]
  have hz1 : ∀ u v : Value, ((W0.alloc (.cells #[u, v] 3)).drew).cell? ⟨W0.heap.size, 1, none⟩ = some v := fun u v => by simp [go_sem]
  go_region_held3 (fun w' => w'.cell? ⟨B, 0, none⟩ = some (.int .i64 al) ∧ w'.cell? ⟨B, 1, none⟩ = some (.int .i64 ac) ∧ w'.cell? ⟨B + 1, 0, none⟩ = some (.int .i64 bl) ∧ w'.cell? ⟨B + 1, 1, none⟩ = some (.int .i64 bc))
    (first
      | exact ⟨((Kept.refl [] W0).drew).cell e0 (by simp), ((Kept.refl [] W0).drew).cell e1 (by simp), ((Kept.refl [] W0).drew).cell e2 (by simp), ((Kept.refl [] W0).drew).cell e3 (by simp)⟩
      | exact ⟨(((Kept.refl [] W0).alloc _).drew).cell e0 (by simp), (((Kept.refl [] W0).alloc _).drew).cell e1 (by simp), (((Kept.refl [] W0).alloc _).drew).cell e2 (by simp), (((Kept.refl [] W0).alloc _).drew).cell e3 (by simp)⟩)
    (first
      | (go_at_call 56; refine (hC.out _ _ _).mono ?_; rintro e w1 ⟨rfl, rfl⟩)
      | (go_at_call 55; refine (orInt_any (cmpI al bl) (cmpI ac bc) R W0.heap.size _ _ hR.out.symm (hz0 _ _) (hz1 _ _)).mono ?_; rintro e w1 ⟨rfl, rfl⟩))
  go_wp2_with fail
  go_ret
  exact ⟨rfl, hk0.trans (((Kept.refl [] W0).alloc _).drew) (by simp)⟩
theorem plHeap_set (w : World) (b i : Nat) (v : Value) (cur : Array Value) (t : TypeId) (h : w.heap[b]? = some (.cells cur t (0, 0))) : (w.setCell ⟨b, i, none⟩ v).heap[b]? = some (.cells (cur.setIfInBounds i v) t (0, 0)) := by
  show (w.heap.modify b _)[b]? = _
  rw [Array.getElem?_modify, if_pos rfl, h]
  rfl
theorem two_set (w : World) (b c : Nat) (hne : b ≠ c) (x y z u : Value) (cur cur2 : Array Value) (h1 : cur.size = 2) (h2 : cur2.size = 2) (t : TypeId) (e2 : w.heap[b]? = some (.cells cur t (0, 0))) (e3 : w.heap[c]? = some (.cells cur2 t (0, 0))) :
    ((((((w.setCell ⟨b, 0, none⟩ x).setCell ⟨b, 1, none⟩ y).setCell ⟨c, 0, none⟩ z).setCell ⟨c, 1, none⟩ u).drew).heap[b]? = some (.cells #[x, y] t (0, 0)) ∧ (((((w.setCell ⟨b, 0, none⟩ x).setCell ⟨b, 1, none⟩ y).setCell ⟨c, 0, none⟩ z).setCell ⟨c, 1, none⟩ u).drew).heap[c]? = some (.cells #[z, u] t (0, 0))) ∧ Kept [b, c] w ((((w.setCell ⟨b, 0, none⟩ x).setCell ⟨b, 1, none⟩ y).setCell ⟨c, 0, none⟩ z).setCell ⟨c, 1, none⟩ u).drew := by
  have a1 := plHeap_set _ b 1 y _ t (plHeap_set w b 0 x cur t e2)
  have hk1 : Kept [b] w ((w.setCell ⟨b, 0, none⟩ x).setCell ⟨b, 1, none⟩ y) := ((Kept.refl _ _).setCell (.inl (by simp)) _).setCell (.inl (by simp)) _
  have a2 := plHeap_set _ c 1 u _ t (plHeap_set ((w.setCell ⟨b, 0, none⟩ x).setCell ⟨b, 1, none⟩ y) c 0 z cur2 t (hk1.heap e3 (by simp; omega)))
  have hk2 : Kept [c] ((w.setCell ⟨b, 0, none⟩ x).setCell ⟨b, 1, none⟩ y) ((((w.setCell ⟨b, 0, none⟩ x).setCell ⟨b, 1, none⟩ y).setCell ⟨c, 0, none⟩ z).setCell ⟨c, 1, none⟩ u).drew := (((Kept.refl _ _).setCell (.inl (by simp)) _).setCell (.inl (by simp)) _).drew
  have a3 := hk2.heap a1 (by simp; omega)
  have l : ∀ (q : Array Value), q.size = 2 → ∀ m n, (q.setIfInBounds 0 m).setIfInBounds 1 n = #[m, n] := by
    intro q hq m n
    obtain ⟨q⟩ := q
    match q, hq with
    | [_, _], _ => rfl
  rw [l _ h1] at a3
  rw [l _ h2] at a2
  exact ⟨⟨a3, a2⟩, (hk1.mono (by simp)).trans hk2 (by simp)⟩
theorem Order_any (a b : Pl) (w : World) : Calls Tryd.prog 27 #[.agg #[.int .i64 a.l, .int .i64 a.c], .agg #[.int .i64 b.l, .int .i64 b.c]] w fun e w' => e = .returned (.tuple #[.agg #[.int .i64 (ordP a b).1.l, .int .i64 (ordP a b).1.c], .agg #[.int .i64 (ordP a b).2.l, .int .i64 (ordP a b).2.c]]) ∧ Kept [] w w' := by
  have hR := hide (show ordP a b = if cmpP b a < 0 then (b, a) else (a, b) from rfl)
  have hC := hide (fun w => Compare_any b a w)
  generalize ordP a b = R at *
  generalize cmpP b a = C at *
  obtain ⟨al, ac⟩ := a
  obtain ⟨bl, bc⟩ := b
  go_enter Tryd.func27, Tryd.ntmps27
  go_wp2_with fail
  obtain ⟨W0, hW0⟩ : ∃ x : World, x = ((((w.alloc (.cells #[.int .i64 al, .int .i64 ac] 49)).alloc (.cells #[.int .i64 bl, .int .i64 bc] 49)).alloc (.cells #[.int .i64 0, .int .i64 0] 49)).alloc (.cells #[.int .i64 0, .int .i64 0] 49)) := ⟨_, rfl⟩
  have hk0 : Kept [] w W0 := by rw [hW0]; exact ((((Kept.refl [] w).alloc _).alloc _).alloc _).alloc _
  have e0 : W0.heap[w.heap.size]? = some (.cells #[.int .i64 al, .int .i64 ac] 49) := by rw [hW0]; exact ((((Kept.refl [] _).alloc _).alloc _).alloc _).heap (heap_alloc_new w _) (by simp)
  have e1 : W0.heap[w.heap.size + 1]? = some (.cells #[.int .i64 bl, .int .i64 bc] 49) := by rw [hW0]; exact (((Kept.refl [] _).alloc _).alloc _).heap (heap_new_at (by simp)) (by simp)
  have e2 : W0.heap[w.heap.size + 1 + 1]? = some (.cells #[.int .i64 0, .int .i64 0] 49) := by rw [hW0]; exact ((Kept.refl [] _).alloc _).heap (heap_new_at (by simp)) (by simp)
  have e3 : W0.heap[w.heap.size + 1 + 1 + 1]? = some (.cells #[.int .i64 0, .int .i64 0] 49) := by rw [hW0]; exact heap_new_at (by simp)
  rw [← hW0]
  clear hW0
  refine (hC.out _).mono ?_
  rintro e w1 ⟨rfl, hk1⟩
  replace e0 := hk1.heap e0 (by simp)
  replace e1 := hk1.heap e1 (by simp)
  replace e2 := hk1.heap e2 (by simp)
  replace e3 := hk1.heap e3 (by simp)
  have hkw := hk0.trans hk1 (by simp)
  clear hk0 hk1
  generalize hB : w.heap.size = B at *
  replace hB := hide hB
  have c0 : w1.cell? ⟨B, 0, none⟩ = some (.int .i64 al) := by simp [World.cell?, e0]
  have c1 : w1.cell? ⟨B, 1, none⟩ = some (.int .i64 ac) := by simp [World.cell?, e0]
  have c2 : w1.cell? ⟨B + 1, 0, none⟩ = some (.int .i64 bl) := by simp [World.cell?, e1]
  have c3 : w1.cell? ⟨B + 1, 1, none⟩ = some (.int .i64 bc) := by simp [World.cell?, e1]
  have f2 : w1.cell? ⟨B + 1 + 1, 0, none⟩ = some (.int .i64 0) := by simp [World.cell?, e2]
  have f3 : w1.cell? ⟨B + 1 + 1, 1, none⟩ = some (.int .i64 0) := by simp [World.cell?, e2]
  have f4 : w1.cell? ⟨B + 1 + 1 + 1, 0, none⟩ = some (.int .i64 0) := by simp [World.cell?, e3]
  have f5 : w1.cell? ⟨B + 1 + 1 + 1, 1, none⟩ = some (.int .i64 0) := by simp [World.cell?, e3]
  have g2 : ∀ i, w1.frozen? ⟨B + 1 + 1, i, none⟩ = false := fun i => by simp [World.frozen?, e2]
  have g3 : ∀ i, w1.frozen? ⟨B + 1 + 1 + 1, i, none⟩ = false := fun i => by simp [World.frozen?, e3]
  by_cases hC0 : C < 0
  · go_upto_region 2 with fail
    go_region
    obtain ⟨⟨k2, k3⟩, hk⟩ := two_set w1 (B + 1 + 1) (B + 1 + 1 + 1) (by omega) (.int .i64 bl) (.int .i64 bc) (.int .i64 al) (.int .i64 ac) _ _ rfl rfl _ e2 e3
    obtain ⟨X, hX⟩ : ∃ X : World, X = ((((w1.setCell ⟨B + 1 + 1, 0, none⟩ (.int .i64 bl)).setCell ⟨B + 1 + 1, 1, none⟩ (.int .i64 bc)).setCell ⟨B + 1 + 1 + 1, 0, none⟩ (.int .i64 al)).setCell ⟨B + 1 + 1 + 1, 1, none⟩ (.int .i64 ac)).drew := ⟨_, rfl⟩
    rw [← hX] at k2 k3 hk ⊢
    clear hX
    have q0 : X.cell? ⟨B + 1 + 1, 0, none⟩ = some (.int .i64 bl) := by simp [World.cell?, k2]
    have q1 : X.cell? ⟨B + 1 + 1, 1, none⟩ = some (.int .i64 bc) := by simp [World.cell?, k2]
    have q2 : X.cell? ⟨B + 1 + 1 + 1, 0, none⟩ = some (.int .i64 al) := by simp [World.cell?, k3]
    have q3 : X.cell? ⟨B + 1 + 1 + 1, 1, none⟩ = some (.int .i64 ac) := by simp [World.cell?, k3]
    clear c0 c1 c2 c3 f2 f3 f4 f5 g2 g3 e0 e1 e2 e3 k2 k3
    go_wp2_with fail
    refine bodyPost_ret (v := .tuple #[.agg #[.int .i64 bl, .int .i64 bc], .agg #[.int .i64 al, .int .i64 ac]]) (by simp [results, Tryd.results27, go_sem, q0, q1, q2, q3]) rfl ?_
    exact ⟨by rw [hR.out, if_pos hC0], hkw.trans hk (fun x hx => .inr (by have := hB.out; simp at hx; omega))⟩
  · go_upto_region 3 with fail
    go_region
    obtain ⟨⟨k2, k3⟩, hk⟩ := two_set w1 (B + 1 + 1) (B + 1 + 1 + 1) (by omega) (.int .i64 al) (.int .i64 ac) (.int .i64 bl) (.int .i64 bc) _ _ rfl rfl _ e2 e3
    obtain ⟨X, hX⟩ : ∃ X : World, X = ((((w1.setCell ⟨B + 1 + 1, 0, none⟩ (.int .i64 al)).setCell ⟨B + 1 + 1, 1, none⟩ (.int .i64 ac)).setCell ⟨B + 1 + 1 + 1, 0, none⟩ (.int .i64 bl)).setCell ⟨B + 1 + 1 + 1, 1, none⟩ (.int .i64 bc)).drew := ⟨_, rfl⟩
    rw [← hX] at k2 k3 hk ⊢
    clear hX
    have q0 : X.cell? ⟨B + 1 + 1, 0, none⟩ = some (.int .i64 al) := by simp [World.cell?, k2]
    have q1 : X.cell? ⟨B + 1 + 1, 1, none⟩ = some (.int .i64 ac) := by simp [World.cell?, k2]
    have q2 : X.cell? ⟨B + 1 + 1 + 1, 0, none⟩ = some (.int .i64 bl) := by simp [World.cell?, k3]
    have q3 : X.cell? ⟨B + 1 + 1 + 1, 1, none⟩ = some (.int .i64 bc) := by simp [World.cell?, k3]
    clear c0 c1 c2 c3 f2 f3 f4 f5 g2 g3 e0 e1 e2 e3 k2 k3
    go_wp2_with fail
    refine bodyPost_ret (v := .tuple #[.agg #[.int .i64 al, .int .i64 ac], .agg #[.int .i64 bl, .int .i64 bc]]) (by simp [results, Tryd.results27, go_sem, q0, q1, q2, q3]) rfl ?_
    exact ⟨by rw [hR.out, if_neg (by omega)], hkw.trans hk (fun x hx => .inr (by have := hB.out; simp at hx; omega))⟩
theorem validColumns_any (c : Int) (w : World) : Calls Tryd.prog 81 #[.int .i64 c] w fun e w' => e = .returned (.bool (colP c)) ∧ w' = w := by
  have hR := hide (show colP c = decide (1 ≤ c ∧ c ≤ 1000) from rfl)
  generalize colP c = R at *
  by_cases h1 : 1 ≤ c
  · by_cases h2 : c ≤ 1000
    · go_enter Tryd.func81, Tryd.ntmps81
      go_wp2_with fail
      go_ret
      exact ⟨ret_bool (by rw [hR.out]; simp; omega), rfl⟩
    · go_enter Tryd.func81, Tryd.ntmps81
      go_wp2_with fail
      go_ret
      exact ⟨ret_bool (by rw [hR.out]; simp; omega), rfl⟩
  · go_enter Tryd.func81, Tryd.ntmps81
    go_wp2_with fail
    go_ret
    exact ⟨ret_bool (by rw [hR.out]; simp; omega), rfl⟩
theorem lastCell_any (l c : Int) (hc : -9223372036854775807 ≤ c ∧ c ≤ 9223372036854775807) (w : World) : Calls Tryd.prog 82 #[.int .i64 l, .int .i64 c] w fun e w' => e = .returned (.agg #[.int .i64 l, .int .i64 (c - 1)]) ∧ Kept [] w w' := by
  have hw : IntKind.i64.wrap (c - 1) = c - 1 := IntWalk.i64_in _ (by omega)
  go_enter Tryd.func82, Tryd.ntmps82
  go_wp2_with fail
  refine bodyPost_ret (v := .agg #[.int .i64 l, .int .i64 (c - 1)]) (by simp [results, Tryd.results82, go_sem]) rfl ?_
  exact ⟨rfl, (Kept.refl [] w).alloc _⟩
theorem cellsBefore_any (p : Pl) (c : Int) (h1 : Wd (p.l * c)) (h2 : Wd (cellP p c)) (w : World) : Calls Tryd.prog 64 #[.agg #[.int .i64 p.l, .int .i64 p.c], .int .i64 c] w fun e w' => e = .returned (.int .i64 (cellP p c)) ∧ Kept [] w w' := by
  obtain ⟨l, k⟩ := p
  have e1 : IntKind.i64.wrap (l * c) = l * c := IntWalk.i64_in _ h1
  have e2 : IntKind.i64.wrap (l * c + k) = l * c + k := IntWalk.i64_in _ h2
  go_enter Tryd.func64, Tryd.ntmps64
  go_wp2_with fail
  go_ret
  exact ⟨rfl, (Kept.refl [] w).alloc _⟩
theorem Valid_any (p : Pl) (w : World) : Calls Tryd.prog 24 #[.agg #[.int .i64 p.l, .int .i64 p.c]] w fun e w' => e = .returned (.bool (vP p)) ∧ Kept [] w w' := by
  have hR := hide (show vP p = decide (0 ≤ p.l ∧ p.l ≤ 1099511627776 ∧ 0 ≤ p.c ∧ p.c ≤ 1000) from rfl)
  generalize vP p = R at *
  obtain ⟨l, k⟩ := p
  by_cases h1 : 0 ≤ l <;> by_cases h2 : l ≤ 1099511627776 <;> by_cases h3 : 0 ≤ k <;> by_cases h4 : k ≤ 1000
  all_goals first
    | (exfalso; omega)
    | (go_enter Tryd.func24, Tryd.ntmps24
       go_wp2_with fail
       go_ret
       exact ⟨ret_bool (by rw [hR.out]; simp; omega), (Kept.refl [] w).alloc _⟩)
set_option maxHeartbeats 1000000 in
theorem isCell_any (p : Pl) (c : Int) (w : World) : Calls Tryd.prog 63 #[.agg #[.int .i64 p.l, .int .i64 p.c], .int .i64 c] w fun e w' => e = .returned (.bool (inP p c)) ∧ Kept [] w w' := by
  have hR := hide (show inP p c = decide (colP c = true ∧ vP p = true ∧ p.c < c) from rfl)
  have h1 := hide (fun w => validColumns_any c w)
  have h2 := hide (fun w => Valid_any p w)
  generalize inP p c = R at *
  generalize colP c = C at *
  generalize vP p = V at *
  obtain ⟨l, k⟩ := p
  have hk0 : Kept [] w (w.alloc (.cells #[.int .i64 l, .int .i64 k] 49)) := (Kept.refl [] w).alloc _
  have c0 : (w.alloc (.cells #[.int .i64 l, .int .i64 k] 49)).cell? ⟨w.heap.size, 1, none⟩ = some (.int .i64 k) := by simp [go_sem]
  cases C with
  | false =>
    go_enter Tryd.func63, Tryd.ntmps63
    go_wp2_with fail
    refine (h1.out _).mono ?_
    rintro e w1 ⟨rfl, rfl⟩
    go_wp2_with fail
    go_ret
    exact ⟨ret_bool (by rw [hR.out]; simp), hk0⟩
  | true =>
    go_enter Tryd.func63, Tryd.ntmps63
    go_wp2_with fail
    refine (h1.out _).mono ?_
    rintro e w1 ⟨rfl, rfl⟩
    go_wp2_with fail
    refine (h2.out _).mono ?_
    rintro e w2 ⟨rfl, hk2⟩
    have hkw := hk0.trans hk2 (by simp)
    have c1 := hk2.cell c0 (by simp)
    have hlt : w.heap.size < w2.heap.size := World.block_lt_of_cell? w2 _ c1
    clear c0 hk0 hk2
    cases V with
    | false =>
      go_wp2_with fail
      go_ret
      exact ⟨ret_bool (by rw [hR.out]; simp), hkw⟩
    | true =>
      go_wp2_with fail
      go_ret
      exact ⟨ret_bool (by rw [hR.out]; simp), hkw⟩
end Go.Proofs.YtnkddhmhjnhgcaaDoor
