/- The program's find of layer 8. -/
import Derived.Test.YtnkddhmhjnhgcaaGreatDoorRnFn1
namespace Go.Proofs.YtnkddhmhjnhgcaaGreatDoor
open Go.RowKit
set_option linter.unusedVariables false
set_option maxRecDepth 100000

set_option maxHeartbeats 4000000 in
theorem find8_call (w : World) (b : Nat) (r : Rg) (a : Option Addr) (n c : Nat) (ps : List PgX) (h : RnIs w b r a n c ps) (j k i : Nat) (p : PgX) (hj : j < r.ls.length) (hn : r.next ≤ 1000000000) (hp : ps[k]? = some p) (hq : (j + goneS (shs ps)) / r.places = k) (hm : (j + goneS (shs ps)) % r.places = p.s.gone + i) (N : Int) (hN : N = (r.first : Int) + (j : Int)) :
    Calls Tryz.prog 47 #[.pointer (some ⟨b, 0, none⟩), .int .i64 N] w fun e w' => e = .returned (.tuple #[.int .i64 (k : Nat), .int .i64 (i : Nat)]) ∧ Kept [] w w' := by
  have hl := h.plen
  have hn0 : 0 < n := Nat.pos_of_ne_zero fun h0 => by rw [h.nil.1 h0] at hj; simp at hj
  obtain ⟨p0, ps', hps⟩ : ∃ p0 ps', ps = p0 :: ps' := by cases ps with | nil => simp at hl; omega | cons x y => exact ⟨x, y, rfl⟩
  obtain ⟨g, o, rfl⟩ := h.mid.rd.rowAddr rowPt (by simp [ptL]; omega)
  have hg0 : goneS (shs ps) = p0.s.gone := by rw [hps]; rfl
  rw [hg0] at hq hm
  have hk : k < n := by have := (List.getElem?_eq_some_iff.1 hp).1; omega
  have hM := hide (fun w1 (hk : Kept [] w w1) => (h.keep hk).mid)
  have hc0 : ∀ w1, Kept [] w w1 → w1.cell? ⟨g, o, none⟩ = some (.pointer (some ⟨p0.b, 0, none⟩)) := fun w1 hk => by
    have := ((hM.out w1 hk).cellAt rowPt (i := 0) (j := 0) (u := .pointer (some ⟨p0.b, 0, none⟩)) (by simp [hps, ptL]) (by simp [hps, ptV, ptL])).1
    simpa using this
  have hck : ∀ w1, Kept [] w w1 → w1.cell? ⟨g, o + k, none⟩ = some (.pointer (some ⟨p.b, 0, none⟩)) := fun w1 hk1 => by
    obtain ⟨hkl, hpe⟩ := List.getElem?_eq_some_iff.1 hp
    have := ((hM.out w1 hk1).cellAt rowPt (i := k) (j := 0) (u := .pointer (some ⟨p.b, 0, none⟩)) (by simpa [ptL] using hkl) (by simp [hpe, ptV, ptL])).1
    simpa using this
  have hpg0 : ∀ w1, Kept [] w w1 → PG w1 p0.b p0.s p0.B := fun w1 hk => (h.keep hk).pgs p0 (by rw [hps]; simp)
  have hpgk : ∀ w1, Kept [] w w1 → PG w1 p.b p.s p.B := fun w1 hk1 => (h.keep hk1).pgs p (by obtain ⟨hkl, hpe⟩ := List.getElem?_eq_some_iff.1 hp; exact hpe ▸ List.getElem_mem hkl)
  have hG0 := hide (fun w1 hk => by obtain ⟨a1, n1, c1, vs, hh, _⟩ := hpg0 w1 hk; exact gone_pg hh)
  have hGk := hide (fun w1 hk => by obtain ⟨a1, n1, c1, vs, hh, _⟩ := hpgk w1 hk; exact gone_pg hh)
  have hF : ∀ {w' : World}, Kept [] w w' → (w'.cell? ⟨b, 0, none⟩ = some (.int .i64 (r.limit : Nat)) ∧ w'.cell? ⟨b, 1, none⟩ = some (.int .i64 (r.places : Nat)) ∧ w'.cell? ⟨b, 2, none⟩ = some (.int .i64 (r.first : Nat)) ∧ w'.cell? ⟨b, 3, none⟩ = some (.int .i64 (r.next : Nat)) ∧ w'.cell? ⟨b, 4, none⟩ = some (.slice (some ⟨g, o, none⟩) n c)) ∧ w'.cell? ⟨g, o, none⟩ = some (.pointer (some ⟨p0.b, 0, none⟩)) ∧ w'.cell? ⟨g, o + k, none⟩ = some (.pointer (some ⟨p.b, 0, none⟩)) := fun hk => ⟨(h.keep hk).box.at, hc0 _ hk, hck _ hk⟩
  have hgp : p0.s.gone ≤ 1024 := by have h1 := PG.ok _ _ _ _ (hpg0 w (Kept.refl _ _)); have := h1.1.1; omega
  have hp1 := h.wf.p1
  have hp2 := h.wf.p2
  have hnx := h.nlen
  have e1 : IntKind.i64.wrap (N - (r.first : Int)) = (j : Int) := by rw [IntKind.wrap_i64]; omega
  have e2 : IntKind.i64.wrap ((j : Int) + (p0.s.gone : Int)) = ((j + p0.s.gone : Nat) : Int) := by rw [IntKind.wrap_i64]; omega
  obtain ⟨x, hx⟩ : ∃ x : Nat, j + p0.s.gone = x := ⟨_, rfl⟩
  rw [hx] at hq hm e2
  have e3 : IntKind.i64.wrap (Int.tdiv (x : Int) (r.places : Int)) = (k : Int) := by rw [← hq, ← Int.ofNat_tdiv]; rw [IntKind.wrap_i64]; have := Nat.div_le_self x r.places; omega
  have e4 : Int.tmod (x : Int) (r.places : Int) = ((p.s.gone + i : Nat) : Int) := by rw [← hm, ← Int.ofNat_tmod]
  have e5 : IntKind.i64.wrap (((p.s.gone + i : Nat) : Int) - (p.s.gone : Int)) = (i : Int) := by rw [IntKind.wrap_i64]; have := Nat.mod_lt x hp1; omega
  have e6 : ¬ (r.places = 0) := by omega
  have e8 : wrap64 ((x : Int) / (r.places : Int)) = (k : Int) := by rw [← hq, ← Int.natCast_ediv]; unfold wrap64; have := Nat.div_le_self x r.places; omega
  have e7 : (((r.places : Nat) : Int) == 0) = false := by simp; omega
  have i0 : (0 : Int) < (n : Int) := Int.ofNat_lt.2 hn0
  have i1 : (k : Int) < (n : Int) := Int.ofNat_lt.2 hk
  replace hx := hide hx
  replace hq := hide hq
  replace hm := hide hm
  replace hN := hide hN
  replace hnx := hide hnx
  generalize hmi : p.s.gone + i = mi at *
  replace hmi := hide hmi
  clear h hl hps hp hc0 hck hpg0 hpgk
  go_enter Tryz.func47, Tryz.ntmps47
  go_upto_region 1 with fail
  refine wp_region_held_drew (S := (fun w' => (w'.cell? ⟨b, 0, none⟩ = some (.int .i64 (r.limit : Nat)) ∧ w'.cell? ⟨b, 1, none⟩ = some (.int .i64 (r.places : Nat)) ∧ w'.cell? ⟨b, 2, none⟩ = some (.int .i64 (r.first : Nat)) ∧ w'.cell? ⟨b, 3, none⟩ = some (.int .i64 (r.next : Nat)) ∧ w'.cell? ⟨b, 4, none⟩ = some (.slice (some ⟨g, o, none⟩) n c)) ∧ w'.cell? ⟨g, o, none⟩ = some (.pointer (some ⟨p0.b, 0, none⟩)) ∧ w'.cell? ⟨g, o + k, none⟩ = some (.pointer (some ⟨p.b, 0, none⟩)))) (by kernel_rfl) ?_ (fun hHeld => ?_)
  · (try dsimp only); (first | exact hF k2 | exact hF (Kept.refl [] w).drew)
  refine wpAnyH_take (i := 0) (v := ?_) rfl (by kernel_rfl) (by kernel_rfl) (by kernel_rfl) (fun _ _ _ h => h) (Or.inl ⟨by rfl, ?_⟩) (by assumption) ?_
  rotate_left
  · (intro wq hSw; (try dsimp only at hSw); go_simp; try with_reducible rfl)
  try simp only [Act.put, List.getElem_toArray, List.getElem_cons_zero, List.setIfInBounds_toArray, List.set_cons_zero, List.set_cons_succ]
  refine wpAnyH_take (i := 1) (v := ?_) rfl (by kernel_rfl) (by kernel_rfl) (by kernel_rfl) (fun _ _ _ h => h) (Or.inl ⟨by rfl, ?_⟩) (by assumption) ?_
  rotate_left
  · (intro wq hSw; (try dsimp only at hSw); go_simp; try with_reducible rfl)
  try simp only [Act.put, List.getElem_toArray, List.getElem_cons_succ, List.getElem_cons_zero, List.setIfInBounds_toArray, List.set_cons_zero, List.set_cons_succ]
  refine wpAnyH_take (i := 2) (v := ?_) rfl (by kernel_rfl) (by kernel_rfl) (by kernel_rfl) (fun _ _ _ h => h) (Or.inl ⟨by rfl, ?_⟩) (by assumption) ?_
  rotate_left
  · (intro wq hSw; (try dsimp only at hSw); go_simp; try with_reducible rfl)
  try simp only [Act.put, List.getElem_toArray, List.getElem_cons_succ, List.getElem_cons_zero, List.setIfInBounds_toArray, List.set_cons_zero, List.set_cons_succ]
  refine wpAnyH_take (i := 3) (v := ?_) rfl (by kernel_rfl) (by kernel_rfl) (by kernel_rfl) (fun _ _ _ h => h) (Or.inl ⟨by rfl, ?_⟩) (by assumption) ?_
  rotate_left
  · (intro wq hSw; (try dsimp only at hSw); go_simp; try with_reducible rfl)
  try simp only [Act.put, List.getElem_toArray, List.getElem_cons_succ, List.getElem_cons_zero, List.setIfInBounds_toArray, List.set_cons_zero, List.set_cons_succ]
  refine wpAnyH_take (i := 4) (v := ?_) rfl (by kernel_rfl) (by kernel_rfl) (by kernel_rfl) (fun _ _ _ h => h) (Or.inl ⟨by rfl, ?_⟩) (by assumption) ?_
  rotate_left
  · (intro wq hSw; (try dsimp only at hSw); go_simp; try with_reducible rfl)
  try simp only [Act.put, List.getElem_toArray, List.getElem_cons_succ, List.getElem_cons_zero, List.setIfInBounds_toArray, List.set_cons_zero, List.set_cons_succ]
  refine wpAnyH_take (i := 5) (v := ?_) rfl (by kernel_rfl) (by kernel_rfl) (by kernel_rfl) (fun _ _ _ h => h) (Or.inl ⟨by rfl, ?_⟩) (by assumption) ?_
  rotate_left
  · (intro wq hSw; (try dsimp only at hSw); go_simp; try with_reducible rfl)
  try simp only [Act.put, List.getElem_toArray, List.getElem_cons_succ, List.getElem_cons_zero, List.setIfInBounds_toArray, List.set_cons_zero, List.set_cons_succ]
  refine wpAnyH_take (i := 6) (v := ?_) rfl (by kernel_rfl) (by kernel_rfl) (by kernel_rfl) (fun _ _ _ h => h) (Or.inl ⟨by rfl, ?_⟩) (by assumption) ?_
  rotate_left
  · (intro wq hSw; (try dsimp only at hSw); go_simp; try with_reducible rfl)
  try simp only [Act.put, List.getElem_toArray, List.getElem_cons_succ, List.getElem_cons_zero, List.setIfInBounds_toArray, List.set_cons_zero, List.set_cons_succ]
  refine wpAnyH_take (i := 7) (v := ?_) rfl (by kernel_rfl) (by kernel_rfl) (by kernel_rfl) (fun _ _ _ h => h) (Or.inl ⟨by rfl, ?_⟩) (by assumption) ?_
  rotate_left
  · (intro wq hSw; (try dsimp only at hSw); go_simp; try with_reducible rfl)
  try simp only [Act.put, List.getElem_toArray, List.getElem_cons_succ, List.getElem_cons_zero, List.setIfInBounds_toArray, List.set_cons_zero, List.set_cons_succ]
  refine wpAnyH_take (i := 8) (v := ?_) rfl (by kernel_rfl) (by kernel_rfl) (by kernel_rfl) (fun _ _ _ h => h) (Or.inl ⟨by rfl, ?_⟩) (by assumption) ?_
  rotate_left
  · (intro wq hSw; (try dsimp only at hSw); go_simp; try with_reducible rfl)
  try simp only [Act.put, List.getElem_toArray, List.getElem_cons_succ, List.getElem_cons_zero, List.setIfInBounds_toArray, List.set_cons_zero, List.set_cons_succ]
  refine wpAnyH_take (i := 9) (v := ?_) rfl (by kernel_rfl) (by kernel_rfl) (by kernel_rfl) (fun _ _ _ h => h) (Or.inl ⟨by rfl, ?_⟩) (by assumption) ?_
  rotate_left
  · (intro wq hSw; (try dsimp only at hSw); go_simp; try with_reducible rfl)
  try simp only [Act.put, List.getElem_toArray, List.getElem_cons_succ, List.getElem_cons_zero, List.setIfInBounds_toArray, List.set_cons_zero, List.set_cons_succ]
  refine wpAnyH_take (i := 10) (v := ?_) rfl (by kernel_rfl) (by kernel_rfl) (by kernel_rfl) (fun _ _ _ h => h) (Or.inl ⟨by rfl, ?_⟩) (by assumption) ?_
  rotate_left
  · (intro wq hSw; (try dsimp only at hSw); go_simp; try with_reducible rfl)
  try simp only [Act.put, List.getElem_toArray, List.getElem_cons_succ, List.getElem_cons_zero, List.setIfInBounds_toArray, List.set_cons_zero, List.set_cons_succ]
  refine wpAnyH_take (i := 11) (v := ?_) rfl (by kernel_rfl) (by kernel_rfl) (by kernel_rfl) (fun _ _ _ h => h) (Or.inl ⟨by rfl, ?_⟩) (by assumption) ?_
  rotate_left
  · (intro wq hSw; (try dsimp only at hSw); go_simp; try with_reducible rfl)
  try simp only [Act.put, List.getElem_toArray, List.getElem_cons_succ, List.getElem_cons_zero, List.setIfInBounds_toArray, List.set_cons_zero, List.set_cons_succ]
  refine wpAnyH_ready (rs := [12]) (by kernel_rfl) (by simp) ?_
  refine AllReadyH.cons rfl (fun K hK => ?_) AllReadyH.nil
  go_simp
  refine (hG0.out _ (Kept.refl [] w).drew).mono ?_; rintro e w2 ⟨rfl, j2⟩; have k2 : Kept [] w w2 := (Kept.refl [] w).drew.trans j2 (by simp)
  try go_wp2_with fail
  refine hK.out _ _ ?_ (fun hHeld => ?_)
  · (try dsimp only); (first | exact hF k2 | exact hF (Kept.refl [] w).drew)
  clear hK K
  try simp only [Act.put, List.getElem_toArray, List.getElem_cons_succ, List.getElem_cons_zero, List.setIfInBounds_toArray, List.set_cons_zero, List.set_cons_succ]
  refine wpAnyH_take (i := 13) (v := ?_) rfl (by kernel_rfl) (by kernel_rfl) (by kernel_rfl) (fun _ _ _ h => h) (Or.inl ⟨by rfl, ?_⟩) (by assumption) ?_
  rotate_left
  · (intro wq hSw; (try dsimp only at hSw); go_simp; try with_reducible rfl)
  try simp only [Act.put, List.getElem_toArray, List.getElem_cons_succ, List.getElem_cons_zero, List.setIfInBounds_toArray, List.set_cons_zero, List.set_cons_succ]
  refine wpAnyH_take (i := 14) (v := ?_) rfl (by kernel_rfl) (by kernel_rfl) (by kernel_rfl) (fun _ _ _ h => h) (Or.inl ⟨by rfl, ?_⟩) (by assumption) ?_
  rotate_left
  · (intro wq hSw; (try dsimp only at hSw); go_simp; try with_reducible rfl)
  try simp only [Act.put, List.getElem_toArray, List.getElem_cons_succ, List.getElem_cons_zero, List.setIfInBounds_toArray, List.set_cons_zero, List.set_cons_succ]
  refine wpAnyH_done (by kernel_rfl) ?_ _
  obtain ⟨⟨q0, q1, q2, q3, q4⟩, q5, q6⟩ := hF k2
  go_upto_region 3 with fail
  clear q0 q1 q2 q3 q4 q5 q6
  refine wp_region_held_drew (S := (fun w' => (w'.cell? ⟨b, 0, none⟩ = some (.int .i64 (r.limit : Nat)) ∧ w'.cell? ⟨b, 1, none⟩ = some (.int .i64 (r.places : Nat)) ∧ w'.cell? ⟨b, 2, none⟩ = some (.int .i64 (r.first : Nat)) ∧ w'.cell? ⟨b, 3, none⟩ = some (.int .i64 (r.next : Nat)) ∧ w'.cell? ⟨b, 4, none⟩ = some (.slice (some ⟨g, o, none⟩) n c)) ∧ w'.cell? ⟨g, o, none⟩ = some (.pointer (some ⟨p0.b, 0, none⟩)) ∧ w'.cell? ⟨g, o + k, none⟩ = some (.pointer (some ⟨p.b, 0, none⟩)))) (by kernel_rfl) ?_ (fun hHeld => ?_)
  · (try dsimp only); (first | exact hF k4 | exact hF k2.drew)
  refine wpAnyH_take (i := 0) (v := ?_) rfl (by kernel_rfl) (by kernel_rfl) (by kernel_rfl) (fun _ _ _ h => h) (Or.inl ⟨by rfl, ?_⟩) (by assumption) ?_
  rotate_left
  · (intro wq hSw; (try dsimp only at hSw); go_simp; try with_reducible rfl)
  try simp only [Act.put, List.getElem_toArray, List.getElem_cons_zero, List.setIfInBounds_toArray, List.set_cons_zero, List.set_cons_succ]
  refine wpAnyH_take (i := 1) (v := ?_) rfl (by kernel_rfl) (by kernel_rfl) (by kernel_rfl) (fun _ _ _ h => h) (Or.inl ⟨by rfl, ?_⟩) (by assumption) ?_
  rotate_left
  · (intro wq hSw; (try dsimp only at hSw); go_simp; try with_reducible rfl)
  try simp only [Act.put, List.getElem_toArray, List.getElem_cons_succ, List.getElem_cons_zero, List.setIfInBounds_toArray, List.set_cons_zero, List.set_cons_succ]
  refine wpAnyH_take (i := 2) (v := ?_) rfl (by kernel_rfl) (by kernel_rfl) (by kernel_rfl) (fun _ _ _ h => h) (Or.inl ⟨by rfl, ?_⟩) (by assumption) ?_
  rotate_left
  · (intro wq hSw; (try dsimp only at hSw); go_simp; try with_reducible rfl)
  try simp only [Act.put, List.getElem_toArray, List.getElem_cons_succ, List.getElem_cons_zero, List.setIfInBounds_toArray, List.set_cons_zero, List.set_cons_succ]
  refine wpAnyH_take (i := 3) (v := ?_) rfl (by kernel_rfl) (by kernel_rfl) (by kernel_rfl) (fun _ _ _ h => h) (Or.inl ⟨by rfl, ?_⟩) (by assumption) ?_
  rotate_left
  · (intro wq hSw; (try dsimp only at hSw); go_simp; try with_reducible rfl)
  try simp only [Act.put, List.getElem_toArray, List.getElem_cons_succ, List.getElem_cons_zero, List.setIfInBounds_toArray, List.set_cons_zero, List.set_cons_succ]
  refine wpAnyH_take (i := 4) (v := ?_) rfl (by kernel_rfl) (by kernel_rfl) (by kernel_rfl) (fun _ _ _ h => h) (Or.inl ⟨by rfl, ?_⟩) (by assumption) ?_
  rotate_left
  · (intro wq hSw; (try dsimp only at hSw); go_simp; try with_reducible rfl)
  try simp only [Act.put, List.getElem_toArray, List.getElem_cons_succ, List.getElem_cons_zero, List.setIfInBounds_toArray, List.set_cons_zero, List.set_cons_succ]
  refine wpAnyH_take (i := 5) (v := ?_) rfl (by kernel_rfl) (by kernel_rfl) (by kernel_rfl) (fun _ _ _ h => h) (Or.inl ⟨by rfl, ?_⟩) (by assumption) ?_
  rotate_left
  · (intro wq hSw; (try dsimp only at hSw); go_simp; try with_reducible rfl)
  try simp only [Act.put, List.getElem_toArray, List.getElem_cons_succ, List.getElem_cons_zero, List.setIfInBounds_toArray, List.set_cons_zero, List.set_cons_succ]
  refine wpAnyH_take (i := 6) (v := ?_) rfl (by kernel_rfl) (by kernel_rfl) (by kernel_rfl) (fun _ _ _ h => h) (Or.inl ⟨by rfl, ?_⟩) (by assumption) ?_
  rotate_left
  · (intro wq hSw; (try dsimp only at hSw); go_simp; try with_reducible rfl)
  try simp only [Act.put, List.getElem_toArray, List.getElem_cons_succ, List.getElem_cons_zero, List.setIfInBounds_toArray, List.set_cons_zero, List.set_cons_succ]
  refine wpAnyH_take (i := 7) (v := ?_) rfl (by kernel_rfl) (by kernel_rfl) (by kernel_rfl) (fun _ _ _ h => h) (Or.inl ⟨by rfl, ?_⟩) (by assumption) ?_
  rotate_left
  · (intro wq hSw; (try dsimp only at hSw); go_simp; try with_reducible rfl)
  try simp only [Act.put, List.getElem_toArray, List.getElem_cons_succ, List.getElem_cons_zero, List.setIfInBounds_toArray, List.set_cons_zero, List.set_cons_succ]
  refine wpAnyH_take (i := 8) (v := ?_) rfl (by kernel_rfl) (by kernel_rfl) (by kernel_rfl) (fun _ _ _ h => h) (Or.inl ⟨by rfl, ?_⟩) (by assumption) ?_
  rotate_left
  · (intro wq hSw; (try dsimp only at hSw); go_simp; try with_reducible rfl)
  try simp only [Act.put, List.getElem_toArray, List.getElem_cons_succ, List.getElem_cons_zero, List.setIfInBounds_toArray, List.set_cons_zero, List.set_cons_succ]
  refine wpAnyH_take (i := 9) (v := ?_) rfl (by kernel_rfl) (by kernel_rfl) (by kernel_rfl) (fun _ _ _ h => h) (Or.inl ⟨by rfl, ?_⟩) (by assumption) ?_
  rotate_left
  · (intro wq hSw; (try dsimp only at hSw); go_simp; try with_reducible rfl)
  try simp only [Act.put, List.getElem_toArray, List.getElem_cons_succ, List.getElem_cons_zero, List.setIfInBounds_toArray, List.set_cons_zero, List.set_cons_succ]
  refine wpAnyH_take (i := 10) (v := ?_) rfl (by kernel_rfl) (by kernel_rfl) (by kernel_rfl) (fun _ _ _ h => h) (Or.inl ⟨by rfl, ?_⟩) (by assumption) ?_
  rotate_left
  · (intro wq hSw; (try dsimp only at hSw); go_simp; try with_reducible rfl)
  try simp only [Act.put, List.getElem_toArray, List.getElem_cons_succ, List.getElem_cons_zero, List.setIfInBounds_toArray, List.set_cons_zero, List.set_cons_succ]
  refine wpAnyH_take (i := 11) (v := ?_) rfl (by kernel_rfl) (by kernel_rfl) (by kernel_rfl) (fun _ _ _ h => h) (Or.inl ⟨by rfl, ?_⟩) (by assumption) ?_
  rotate_left
  · (intro wq hSw; (try dsimp only at hSw); go_simp; try with_reducible rfl)
  try simp only [Act.put, List.getElem_toArray, List.getElem_cons_succ, List.getElem_cons_zero, List.setIfInBounds_toArray, List.set_cons_zero, List.set_cons_succ]
  refine wpAnyH_take (i := 12) (v := ?_) rfl (by kernel_rfl) (by kernel_rfl) (by kernel_rfl) (fun _ _ _ h => h) (Or.inl ⟨by rfl, ?_⟩) (by assumption) ?_
  rotate_left
  · (intro wq hSw; (try dsimp only at hSw); go_simp; try with_reducible rfl)
  try simp only [Act.put, List.getElem_toArray, List.getElem_cons_succ, List.getElem_cons_zero, List.setIfInBounds_toArray, List.set_cons_zero, List.set_cons_succ]
  refine wpAnyH_take (i := 13) (v := ?_) rfl (by kernel_rfl) (by kernel_rfl) (by kernel_rfl) (fun _ _ _ h => h) (Or.inl ⟨by rfl, ?_⟩) (by assumption) ?_
  rotate_left
  · (intro wq hSw; (try dsimp only at hSw); go_simp; try with_reducible rfl)
  try simp only [Act.put, List.getElem_toArray, List.getElem_cons_succ, List.getElem_cons_zero, List.setIfInBounds_toArray, List.set_cons_zero, List.set_cons_succ]
  refine wpAnyH_ready (rs := [14]) (by kernel_rfl) (by simp) ?_
  refine AllReadyH.cons rfl (fun K hK => ?_) AllReadyH.nil
  go_simp
  refine (hGk.out _ k2.drew).mono ?_; rintro e w4 ⟨rfl, j4⟩; have k4 : Kept [] w w4 := k2.drew.trans j4 (by simp)
  try go_wp2_with fail
  refine hK.out _ _ ?_ (fun hHeld => ?_)
  · (try dsimp only); (first | exact hF k4 | exact hF k2.drew)
  clear hK K
  try simp only [Act.put, List.getElem_toArray, List.getElem_cons_succ, List.getElem_cons_zero, List.setIfInBounds_toArray, List.set_cons_zero, List.set_cons_succ]
  refine wpAnyH_take (i := 15) (v := ?_) rfl (by kernel_rfl) (by kernel_rfl) (by kernel_rfl) (fun _ _ _ h => h) (Or.inl ⟨by rfl, ?_⟩) (by assumption) ?_
  rotate_left
  · (intro wq hSw; (try dsimp only at hSw); go_simp; try with_reducible rfl)
  try simp only [Act.put, List.getElem_toArray, List.getElem_cons_succ, List.getElem_cons_zero, List.setIfInBounds_toArray, List.set_cons_zero, List.set_cons_succ]
  refine wpAnyH_take (i := 16) (v := ?_) rfl (by kernel_rfl) (by kernel_rfl) (by kernel_rfl) (fun _ _ _ h => h) (Or.inl ⟨by rfl, ?_⟩) (by assumption) ?_
  rotate_left
  · (intro wq hSw; (try dsimp only at hSw); go_simp; try with_reducible rfl)
  try simp only [Act.put, List.getElem_toArray, List.getElem_cons_succ, List.getElem_cons_zero, List.setIfInBounds_toArray, List.set_cons_zero, List.set_cons_succ]
  refine wpAnyH_take (i := 17) (v := ?_) rfl (by kernel_rfl) (by kernel_rfl) (by kernel_rfl) (fun _ _ _ h => h) (Or.inl ⟨by rfl, ?_⟩) (by assumption) ?_
  rotate_left
  · (intro wq hSw; (try dsimp only at hSw); go_simp; try with_reducible rfl)
  try simp only [Act.put, List.getElem_toArray, List.getElem_cons_succ, List.getElem_cons_zero, List.setIfInBounds_toArray, List.set_cons_zero, List.set_cons_succ]
  refine wpAnyH_done (by kernel_rfl) ?_ _
  go_wp2_with fail
  refine bodyPost_ret (v := .tuple #[.int .i64 (k : Nat), .int .i64 (i : Nat)]) (by simp [results, Tryz.results47, go_sem]) rfl ?_
  exact ⟨rfl, k4⟩
theorem find8_any (w : World) (b : Nat) (r : Rg) (a : Option Addr) (n c : Nat) (ps : List PgX) (h : RnIs w b r a n c ps) (j : Nat) (hj : j < r.ls.length) (hn : r.next ≤ 1000000000) :
    ∃ (k i : Nat) (p : PgX), ps[k]? = some p ∧ i < p.s.ls.length ∧ r.ls[j]? = p.s.ls[i]? ∧ j = (lnsS ((shs ps).take k)).length + i ∧ ∀ w1, Kept [] w w1 → ∀ N : Int, N = (r.first : Int) + (j : Int) → Calls Tryz.prog 47 #[.pointer (some ⟨b, 0, none⟩), .int .i64 N] w1 fun e w' => e = .returned (.tuple #[.int .i64 (k : Nat), .int .i64 (i : Nat)]) ∧ Kept [] w1 w' := by
  have hf := h.wf.full
  rw [← h.pa] at hf
  obtain ⟨k, i, s, h1, h2, h3, h4, h5, h6⟩ := find_at h.wf.p1 (shs ps) j hf (by rw [h.ls]; exact hj)
  obtain ⟨p, hp, rfl⟩ := shs_get h1
  exact ⟨k, i, p, hp, h4, by rw [← h.ls]; exact h5, h6, fun w1 hk N hN => find8_call w1 b r a n c ps (h.keep hk) j k i p hj hn hp h2 h3 N hN⟩
end Go.Proofs.YtnkddhmhjnhgcaaGreatDoor
