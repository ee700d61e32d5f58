/- Layer 8: the examples of the chapter. -/
import Derived.Test.YtnkddhmhjnhgcaaGreatDoorRnAll
namespace Go.Proofs.YtnkddhmhjnhgcaaGreatDoor
open Go.RowKit
set_option linter.unusedVariables false
set_option linter.unusedSimpArgs false
set_option maxRecDepth 100000

set_option maxHeartbeats 40000000 in
theorem known8_any (w : World) (ht : Tabs w) (h2 : 2 ≤ w.heap.size) : Calls Tryz.prog 5 #[] w fun e w' => e = .returned (.bool true) ∧ Kept [] w w' := by
  have hpp : ∀ (b : Nat) w1, (binOp .eql 25 (.pointer (some ⟨b, 0, none⟩)) (.pointer none)).run Tryz.prog w1 = .ok (.bool false) w1 := fun b w1 => by kernel_rfl
  have hpq : ∀ (b : Nat) w1, (binOp .neq 25 (.pointer (some ⟨b, 0, none⟩)) (.pointer none)).run Tryz.prog w1 = .ok (.bool true) w1 := fun b w1 => by kernel_rfl
  have ht0 := hide ht
  clear ht
  go_enter Tryz.func5, Tryz.ntmps5
  go_wp2_with fail
  refine (text8_any 97 w).mono ?_
  rintro e w1 ⟨a1, n1, c1, rfl, ho1, h1a, h1b, hk1⟩
  obtain rfl : 1 = n1 := ho1.rd.clen
  obtain ⟨g1, rfl, _⟩ := ho1.form (by decide)
  go_wp2_with fail
  refine (text8_any 98 w1).mono ?_
  rintro e w2 ⟨a2, n2, c2, rfl, ho2, h2a, h2b, hk2⟩
  obtain rfl : 1 = n2 := ho2.rd.clen
  obtain ⟨g2, rfl, _⟩ := ho2.form (by decide)
  go_wp2_with fail
  refine (text8_any 99 w2).mono ?_
  rintro e w3 ⟨a3, n3, c3, rfl, ho3, h3a, h3b, hk3⟩
  obtain rfl : 1 = n3 := ho3.rd.clen
  obtain ⟨g3, rfl, _⟩ := ho3.form (by decide)
  go_wp2_with fail
  refine (text8_any 100 w3).mono ?_
  rintro e w4 ⟨a4, n4, c4, rfl, ho4, h4a, h4b, hk4⟩
  obtain rfl : 1 = n4 := ho4.rd.clen
  obtain ⟨g4, rfl, _⟩ := ho4.form (by decide)
  go_wp2_with fail
  refine (text8_any 101 w4).mono ?_
  rintro e w5 ⟨a5, n5, c5, rfl, ho5, h5a, h5b, hk5⟩
  obtain rfl : 1 = n5 := ho5.rd.clen
  obtain ⟨g5, rfl, _⟩ := ho5.form (by decide)
  have hg1 := (ho1.ge g1 (by simp [blk])).2
  have hg2 := (ho2.ge g2 (by simp [blk])).2
  have hg3 := (ho3.ge g3 (by simp [blk])).2
  have hg4 := (ho4.ge g4 (by simp [blk])).2
  have hg5 := (ho5.ge g5 (by simp [blk])).2
  have hr1 := hide ((((ho1.rd.kept hk2 (by simp)).kept hk3 (by simp)).kept hk4 (by simp)).kept hk5 (by simp))
  have hr2 := hide (((ho2.rd.kept hk3 (by simp)).kept hk4 (by simp)).kept hk5 (by simp))
  have hr3 := hide ((ho3.rd.kept hk4 (by simp)).kept hk5 (by simp))
  have hr4 := hide (ho4.rd.kept hk5 (by simp))
  have hr5 := hide ho5.rd
  have hkA := hide ((((hk1.trans hk2 (by simp)).trans hk3 (by simp)).trans hk4 (by simp)).trans hk5 (by simp))
  have hsz := hide (And.intro hk1.size (And.intro hk2.size (And.intro hk3.size (And.intro hk4.size hk5.size))))
  clear ho1 ho2 ho3 ho4 ho5 hk1 hk2 hk3 hk4 hk5
  have hkz : Hid (Kept [] w5 (((((w5.alloc (.cells #[.slice none 0 0, .bool false] 36)).alloc (.cells #[.slice none 0 0, .bool false] 36)).alloc (.cells #[.slice none 0 0, .bool false] 36)).alloc (.cells #[.slice none 0 0, .bool false] 36)).alloc (.cells #[.slice none 0 0, .bool false] 36))) := hide ((((((Kept.refl [] w5).alloc _).alloc _).alloc _).alloc _).alloc _)
  have hz1 : Hid (LinIn (((((w5.alloc (.cells #[.slice none 0 0, .bool false] 36)).alloc (.cells #[.slice none 0 0, .bool false] 36)).alloc (.cells #[.slice none 0 0, .bool false] 36)).alloc (.cells #[.slice none 0 0, .bool false] 36)).alloc (.cells #[.slice none 0 0, .bool false] 36)) (w5.heap.size) none 0 0 false) := hide (LinIn.kept (heap_new_at (by simp)) (((((Kept.refl [] _).alloc _).alloc _).alloc _).alloc _) (by simp))
  have hz2 : Hid (LinIn (((((w5.alloc (.cells #[.slice none 0 0, .bool false] 36)).alloc (.cells #[.slice none 0 0, .bool false] 36)).alloc (.cells #[.slice none 0 0, .bool false] 36)).alloc (.cells #[.slice none 0 0, .bool false] 36)).alloc (.cells #[.slice none 0 0, .bool false] 36)) (w5.heap.size + 1) none 0 0 false) := hide (LinIn.kept (heap_new_at (by simp)) ((((Kept.refl [] _).alloc _).alloc _).alloc _) (by simp))
  have hz3 : Hid (LinIn (((((w5.alloc (.cells #[.slice none 0 0, .bool false] 36)).alloc (.cells #[.slice none 0 0, .bool false] 36)).alloc (.cells #[.slice none 0 0, .bool false] 36)).alloc (.cells #[.slice none 0 0, .bool false] 36)).alloc (.cells #[.slice none 0 0, .bool false] 36)) (w5.heap.size + 1 + 1) none 0 0 false) := hide (LinIn.kept (heap_new_at (by simp)) (((Kept.refl [] _).alloc _).alloc _) (by simp))
  have hz4 : Hid (LinIn (((((w5.alloc (.cells #[.slice none 0 0, .bool false] 36)).alloc (.cells #[.slice none 0 0, .bool false] 36)).alloc (.cells #[.slice none 0 0, .bool false] 36)).alloc (.cells #[.slice none 0 0, .bool false] 36)).alloc (.cells #[.slice none 0 0, .bool false] 36)) (w5.heap.size + 1 + 1 + 1) none 0 0 false) := hide (LinIn.kept (heap_new_at (by simp)) ((Kept.refl [] _).alloc _) (by simp))
  have hz5 : Hid (LinIn (((((w5.alloc (.cells #[.slice none 0 0, .bool false] 36)).alloc (.cells #[.slice none 0 0, .bool false] 36)).alloc (.cells #[.slice none 0 0, .bool false] 36)).alloc (.cells #[.slice none 0 0, .bool false] 36)).alloc (.cells #[.slice none 0 0, .bool false] 36)) (w5.heap.size + 1 + 1 + 1 + 1) none 0 0 false) := hide (LinIn.kept (heap_new_at (by simp)) (Kept.refl [] _) (by simp))
  go_upto_region 2 with (first | refine wpList_store_lin rfl rfl rfl (w5.heap.size + 1 + 1 + 1 + 1) rfl (((((hz5.out).kept jj1 (by simp <;> omega)).kept jj2 (by simp <;> omega)).kept jj3 (by simp <;> omega)).kept jj4 (by simp <;> omega)) (some ⟨g5, 0, none⟩) 1 c5 false rfl ?_; intro v5 hb5 jj5 | refine wpList_store_lin rfl rfl rfl (w5.heap.size + 1 + 1 + 1) rfl ((((hz4.out).kept jj1 (by simp <;> omega)).kept jj2 (by simp <;> omega)).kept jj3 (by simp <;> omega)) (some ⟨g4, 0, none⟩) 1 c4 false rfl ?_; intro v4 hb4 jj4 | refine wpList_store_lin rfl rfl rfl (w5.heap.size + 1 + 1) rfl (((hz3.out).kept jj1 (by simp <;> omega)).kept jj2 (by simp <;> omega)) (some ⟨g3, 0, none⟩) 1 c3 false rfl ?_; intro v3 hb3 jj3 | refine wpList_store_lin rfl rfl rfl (w5.heap.size + 1) rfl ((hz2.out).kept jj1 (by simp <;> omega)) (some ⟨g2, 0, none⟩) 1 c2 false rfl ?_; intro v2 hb2 jj2 | refine wpList_store_lin rfl rfl rfl (w5.heap.size) rfl (hz1.out) (some ⟨g1, 0, none⟩) 1 c1 false rfl ?_; intro v1 hb1 jj1)
  have hk5v : Kept [] w5 v5 := ((((hkz.out.trans jj1 (by simp <;> omega)).trans jj2 (by simp <;> omega)).trans jj3 (by simp <;> omega)).trans jj4 (by simp <;> omega)).trans jj5 (by simp <;> omega)
  have hl1 := (((hb1.kept jj2 (by simp <;> omega)).kept jj3 (by simp <;> omega)).kept jj4 (by simp <;> omega)).kept jj5 (by simp <;> omega)
  have hl2 := ((hb2.kept jj3 (by simp <;> omega)).kept jj4 (by simp <;> omega)).kept jj5 (by simp <;> omega)
  have hl3 := (hb3.kept jj4 (by simp <;> omega)).kept jj5 (by simp <;> omega)
  have hl4 := hb4.kept jj5 (by simp <;> omega)
  have hl5 := hb5
  have hlt1 := hl1.lt
  have hlt2 := hl2.lt
  have hlt3 := hl3.lt
  have hlt4 := hl4.lt
  have hlt5 := hl5.lt
  have hs5v := hk5v.size
  have hw6 := hide (hkA.out.trans hk5v (by simp <;> omega))
  have hx1 := hr1.out.kept hk5v (by simp <;> omega)
  have hx2 := hr2.out.kept hk5v (by simp <;> omega)
  have hx3 := hr3.out.kept hk5v (by simp <;> omega)
  have hx4 := hr4.out.kept hk5v (by simp <;> omega)
  have hx5 := hr5.out.kept hk5v (by simp <;> omega)
  obtain ⟨hs1, hs2, hs3, hs4, hs5⟩ := hsz.out
  have ht6 := hide (ht0.out.kept hw6.out)
  have hs06 := hw6.out.size
  clear hkz hz1 hz2 hz3 hz4 hz5 hb1 hb2 hb3 hb4 hb5 jj1 jj2 jj3 jj4 jj5 hr1 hr2 hr3 hr4 hr5 hkA hk5v hsz
  generalize w5.heap.size + 1 + 1 + 1 + 1 = b5 at *
  generalize w5.heap.size + 1 + 1 + 1 = b4 at *
  generalize w5.heap.size + 1 + 1 = b3 at *
  generalize w5.heap.size + 1 = b2 at *
  generalize w5.heap.size = b1 at *
  go_wp2_with fail
  refine (New8_any 3 2 v5).mono ?_
  rintro e w7 ⟨hk7, hyes, _⟩
  obtain ⟨b, B, rfl, hpg, hB⟩ := hyes (by decide)
  obtain ⟨ok, hok⟩ : ∃ ok : Nat → Prop, ok = fun y => v5.heap.size ≤ y := ⟨_, rfl⟩
  have hokn : ∀ y, y < v5.heap.size → ¬ ok y := fun y hy h => by rw [hok] at h; omega
  have hoky : ∀ y, v5.heap.size ≤ y → ok y := fun y hy => by rw [hok]; exact hy
  have hokw : Hid (∀ y, ok y → v5.heap.size ≤ y) := hide (fun y hy => by rw [hok] at hy; exact hy)
  have hN : Kn8 ok w7 b1 g1 c1 b2 g2 c2 b3 g3 c3 b4 g4 c4 b5 g5 c5 := ⟨ht6.out.kept hk7, hokn 0 (by omega), hokn 1 (by omega), ⟨hl1.kept hk7 (by simp), hx1.kept hk7 (by simp), hokn _ hlt1, hokn _ (by omega), h1a, h1b⟩, ⟨hl2.kept hk7 (by simp), hx2.kept hk7 (by simp), hokn _ hlt2, hokn _ (by omega), h2a, h2b⟩, ⟨hl3.kept hk7 (by simp), hx3.kept hk7 (by simp), hokn _ hlt3, hokn _ (by omega), h3a, h3b⟩, ⟨hl4.kept hk7 (by simp), hx4.kept hk7 (by simp), hokn _ hlt4, hokn _ (by omega), h4a, h4b⟩, ⟨hl5.kept hk7 (by simp), hx5.kept hk7 (by simp), hokn _ hlt5, hokn _ (by omega), h5a, h5b⟩, fun y hy => hoky y (Nat.le_trans hk7.size hy)⟩
  have hp0 : RP ok w7 b k0 := ⟨B, hpg, fun y hy => hoky y (hB y hy)⟩
  have hw7 := hide (hw6.out.trans hk7 (by simp))
  have hs67 := hide hs06
  clear hyes hpg hB hx1 hx2 hx3 hx4 hx5 hl1 hl2 hl3 hl4 hl5 ht6 hg1 hg2 hg3 hg4 hg5 hlt1 hlt2 hlt3 hlt4 hlt5 hs5v hs1 hs2 hs3 hs4 hs5 hk7 hokn hoky h1a h1b h2a h2b h3a h3b h4a h4b h5a h5b hok hs06
  have hpb := hpp b
  obtain ⟨wn, rfl⟩ : ∃ x : World, x = w7 := ⟨_, rfl⟩
  have hp := hp0
  have hT := KO.of (ok := ok) (Kept.refl [] wn)
  have hHeld := hN
  clear hp0 hpp hN
  obtain ⟨q10, q11⟩ := hHeld.o1.li.at
  go_wp2_with fail
  clear q10 q11
  refine (pushes_n hp hHeld.nw hHeld.t0 hHeld.t1 hHeld.tb (some ⟨g1, 0, none⟩) 1 c1 (ln1 97) hHeld.o1.rd (one_ng hHeld.o1) 0 0 true k1 (by decide +kernel) (by decide +kernel) (by decide +kernel)).mono ?_
  clear hp
  rintro e wn ⟨rfl, hp, hKO⟩
  replace hT := hT.trans hKO
  replace hHeld := hHeld.kept hKO
  clear hKO
  obtain ⟨q20, q21⟩ := hHeld.o2.li.at
  go_wp2_with fail
  clear q20 q21
  refine (pushes_n hp hHeld.nw hHeld.t0 hHeld.t1 hHeld.tb (some ⟨g2, 0, none⟩) 1 c2 (ln1 98) hHeld.o2.rd (one_ng hHeld.o2) 1 0 true k2 (by decide +kernel) (by decide +kernel) (by decide +kernel)).mono ?_
  clear hp
  rintro e wn ⟨rfl, hp, hKO⟩
  replace hT := hT.trans hKO
  replace hHeld := hHeld.kept hKO
  clear hKO
  obtain ⟨q30, q31⟩ := hHeld.o3.li.at
  go_wp2_with fail
  clear q30 q31
  refine (pushes_n hp hHeld.nw hHeld.t0 hHeld.t1 hHeld.tb (some ⟨g3, 0, none⟩) 1 c3 (ln1 99) hHeld.o3.rd (one_ng hHeld.o3) 2 0 true k3 (by decide +kernel) (by decide +kernel) (by decide +kernel)).mono ?_
  clear hp
  rintro e wn ⟨rfl, hp, hKO⟩
  replace hT := hT.trans hKO
  replace hHeld := hHeld.kept hKO
  clear hKO
  go_wp2_with fail
  refine (pages_n hp 2 rfl).mono ?_
  clear hp
  rintro e wn ⟨rfl, hp, hKO⟩
  replace hT := hT.trans hKO
  replace hHeld := hHeld.kept hKO
  clear hKO
  obtain ⟨q40, q41⟩ := hHeld.o4.li.at
  go_wp2_with fail
  clear q40 q41
  refine (pushes_n hp hHeld.nw hHeld.t0 hHeld.t1 hHeld.tb (some ⟨g4, 0, none⟩) 1 c4 (ln1 100) hHeld.o4.rd (one_ng hHeld.o4) 3 0 true k4 (by decide +kernel) (by decide +kernel) (by decide +kernel)).mono ?_
  clear hp
  rintro e wn ⟨rfl, hp, hKO⟩
  replace hT := hT.trans hKO
  replace hHeld := hHeld.kept hKO
  clear hKO
  go_wp2_with fail
  refine (first_n hp 1 (by decide +kernel)).mono ?_
  clear hp
  rintro e wn ⟨rfl, hp, hKO⟩
  replace hT := hT.trans hKO
  replace hHeld := hHeld.kept hKO
  clear hKO
  go_wp2_with fail
  refine (next_n hp 4 (by decide +kernel)).mono ?_
  clear hp
  rintro e wn ⟨rfl, hp, hKO⟩
  replace hT := hT.trans hKO
  replace hHeld := hHeld.kept hKO
  clear hKO
  go_wp2_with fail
  refine (pages_n hp 2 rfl).mono ?_
  clear hp
  rintro e wn ⟨rfl, hp, hKO⟩
  replace hT := hT.trans hKO
  replace hHeld := hHeld.kept hKO
  clear hKO
  go_wp2_with fail
  refine (gets_n hp 0 none 0 0 false [] 14 true (Rd.nil _ _ _) (by decide +kernel) (by decide +kernel)).mono ?_
  clear hp
  rintro e wn ⟨rfl, hp, hKO⟩
  replace hT := hT.trans hKO
  replace hHeld := hHeld.kept hKO
  clear hKO
  obtain ⟨q20, q21⟩ := hHeld.o2.li.at
  go_wp2_with fail
  clear q20 q21
  refine (gets_n hp 1 (some ⟨g2, 0, none⟩) 1 c2 false [runeC 98] 0 true hHeld.o2.rd (by decide +kernel) (by decide +kernel)).mono ?_
  clear hp
  rintro e wn ⟨rfl, hp, hKO⟩
  replace hT := hT.trans hKO
  replace hHeld := hHeld.kept hKO
  clear hKO
  go_wp2_with fail
  refine (gets_n hp 4 none 0 0 false [] 3 true (Rd.nil _ _ _) (by decide +kernel) (by decide +kernel)).mono ?_
  clear hp
  rintro e wn ⟨rfl, hp, hKO⟩
  replace hT := hT.trans hKO
  replace hHeld := hHeld.kept hKO
  clear hKO
  obtain ⟨q20, q21⟩ := hHeld.o2.li.at
  obtain ⟨q30, q31⟩ := hHeld.o3.li.at
  obtain ⟨q40, q41⟩ := hHeld.o4.li.at
  go_wp2_with fail
  clear q20 q21
  clear q30 q31
  clear q40 q41
  obtain ⟨y0, rfl⟩ : ∃ x : World, x = wn := ⟨_, rfl⟩
  have hkA := (Kept.refl [] y0).alloc (.cells #[.slice (some ⟨g2, 0, none⟩) 1 c2, .bool false, .slice (some ⟨g3, 0, none⟩) 1 c3, .bool false, .slice (some ⟨g4, 0, none⟩) 1 c4, .bool false] 36)
  have hHA := hHeld.kept (KO.of hkA)
  have hrM := Rd.ofBlock rowLn (l := [⟨some ⟨g2, 0, none⟩, 1, c2, false⟩, ⟨some ⟨g3, 0, none⟩, 1, c3, false⟩, ⟨some ⟨g4, 0, none⟩, 1, c4, false⟩]) (heap_alloc_new y0 (.cells #[.slice (some ⟨g2, 0, none⟩) 1 c2, .bool false, .slice (some ⟨g3, 0, none⟩) 1 c3, .bool false, .slice (some ⟨g4, 0, none⟩) 1 c4, .bool false] 36)) rfl
  refine (ranges_n (hp.keep hkA) 1 4 0 _ 3 3 _ _ true (lns_3 hHA.o2 hHA.o3 hHA.o4 hrM) (by decide +kernel) (by decide +kernel) (by decide +kernel)).mono ?_
  clear hp
  rintro e wn ⟨rfl, hp, hKO1⟩
  have hKO := (KO.of (ok := ok) hkA).trans hKO1
  replace hT := hT.trans hKO
  clear hkA hHA hrM hKO1
  replace hHeld := hHeld.kept hKO
  clear hKO
  obtain ⟨q50, q51⟩ := hHeld.o5.li.at
  go_wp2_with fail
  clear q50 q51
  refine (pushes_n hp hHeld.nw hHeld.t0 hHeld.t1 hHeld.tb (some ⟨g5, 0, none⟩) 1 c5 (ln1 101) hHeld.o5.rd (one_ng hHeld.o5) 4 0 true k5 (by decide +kernel) (by decide +kernel) (by decide +kernel)).mono ?_
  clear hp
  rintro e wn ⟨rfl, hp, hKO⟩
  replace hT := hT.trans hKO
  replace hHeld := hHeld.kept hKO
  clear hKO
  go_wp2_with fail
  refine (pages_n hp 2 rfl).mono ?_
  clear hp
  rintro e wn ⟨rfl, hp, hKO⟩
  replace hT := hT.trans hKO
  replace hHeld := hHeld.kept hKO
  clear hKO
  obtain ⟨q50, q51⟩ := hHeld.o5.li.at
  go_wp2_with fail
  clear q50 q51
  refine (pops_n hp hHeld.nw (some ⟨g5, 0, none⟩) 1 c5 false [runeC 101] 0 true hHeld.o5.rd (one_ng hHeld.o5) k6 (by decide +kernel) (by decide +kernel) (by decide +kernel)).mono ?_
  clear hp
  rintro e wn ⟨rfl, hp, hKO⟩
  replace hT := hT.trans hKO
  replace hHeld := hHeld.kept hKO
  clear hKO
  go_wp2_with fail
  refine (next_n hp 4 (by decide +kernel)).mono ?_
  clear hp
  rintro e wn ⟨rfl, hp, hKO⟩
  replace hT := hT.trans hKO
  replace hHeld := hHeld.kept hKO
  clear hKO
  obtain ⟨q10, q11⟩ := hHeld.o1.li.at
  go_wp2_with fail
  clear q10 q11
  refine (pushes_n hp hHeld.nw hHeld.t0 hHeld.t1 hHeld.tb (some ⟨g1, 0, none⟩) 1 c1 (ln1 97) hHeld.o1.rd (one_ng hHeld.o1) 4 0 true k7 (by decide +kernel) (by decide +kernel) (by decide +kernel)).mono ?_
  clear hp
  rintro e wn ⟨rfl, hp, hKO⟩
  replace hT := hT.trans hKO
  replace hHeld := hHeld.kept hKO
  clear hKO
  go_wp2_with fail
  refine (limit_n hp hHeld.nw (1) k8 0 (by decide +kernel) (by decide +kernel)).mono ?_
  clear hp
  rintro e wn ⟨rfl, hp, hKO⟩
  replace hT := hT.trans hKO
  replace hHeld := hHeld.kept hKO
  clear hKO
  go_wp2_with fail
  refine (first_n hp 4 (by decide +kernel)).mono ?_
  clear hp
  rintro e wn ⟨rfl, hp, hKO⟩
  replace hT := hT.trans hKO
  replace hHeld := hHeld.kept hKO
  clear hKO
  obtain ⟨q10, q11⟩ := hHeld.o1.li.at
  go_wp2_with fail
  clear q10 q11
  obtain ⟨y0, rfl⟩ : ∃ x : World, x = wn := ⟨_, rfl⟩
  have hkA := (Kept.refl [] y0).alloc (.cells #[.slice (some ⟨g1, 0, none⟩) 1 c1, .bool false] 36)
  have hHA := hHeld.kept (KO.of hkA)
  have hrM := Rd.ofBlock rowLn (l := [⟨some ⟨g1, 0, none⟩, 1, c1, false⟩]) (heap_alloc_new y0 (.cells #[.slice (some ⟨g1, 0, none⟩) 1 c1, .bool false] 36)) rfl
  refine (ranges_n (hp.keep hkA) 4 5 0 _ 1 1 _ _ true (lns_1 hHA.o1 hrM) (by decide +kernel) (by decide +kernel) (by decide +kernel)).mono ?_
  clear hp
  rintro e wn ⟨rfl, hp, hKO1⟩
  have hKO := (KO.of (ok := ok) hkA).trans hKO1
  replace hT := hT.trans hKO
  clear hkA hHA hrM hKO1
  replace hHeld := hHeld.kept hKO
  clear hKO
  go_wp2_with fail
  refine (ranges_n hp 0 1 14 none 0 0 [] [] true (LnsR.none _) (by decide +kernel) (by decide +kernel) (by decide +kernel)).mono ?_
  clear hp
  rintro e wn ⟨rfl, hp, hKO⟩
  replace hT := hT.trans hKO
  replace hHeld := hHeld.kept hKO
  clear hKO
  go_wp2_with fail
  refine (ranges_n hp 3 2 3 none 0 0 [] [] true (LnsR.none _) (by decide +kernel) (by decide +kernel) (by decide +kernel)).mono ?_
  clear hp
  rintro e wn ⟨rfl, hp, hKO⟩
  replace hT := hT.trans hKO
  replace hHeld := hHeld.kept hKO
  clear hKO
  obtain ⟨q20, q21⟩ := hHeld.o2.li.at
  go_wp2_with fail
  clear q20 q21
  refine (set_n hp hHeld.nw hHeld.tb 4 (some ⟨g2, 0, none⟩) 1 c2 (ln1 98) hHeld.o2.rd k9 0 (by decide +kernel) (by decide +kernel)).mono ?_
  clear hp
  rintro e wn ⟨rfl, hp, hKO⟩
  replace hT := hT.trans hKO
  replace hHeld := hHeld.kept hKO
  clear hKO
  obtain ⟨q20, q21⟩ := hHeld.o2.li.at
  go_wp2_with fail
  clear q20 q21
  refine (gets_n hp 4 (some ⟨g2, 0, none⟩) 1 c2 false [runeC 98] 0 true hHeld.o2.rd (by decide +kernel) (by decide +kernel)).mono ?_
  clear hp
  rintro e wn ⟨rfl, hp, hKO⟩
  replace hT := hT.trans hKO
  replace hHeld := hHeld.kept hKO
  clear hKO
  go_wp2_with fail
  refine (clear_n hp hHeld.nw k10 (by decide +kernel)).mono ?_
  clear hp
  rintro e wn ⟨rfl, hp, hKO⟩
  replace hT := hT.trans hKO
  replace hHeld := hHeld.kept hKO
  clear hKO
  go_wp2_with fail
  refine (len_n hp 0 (by decide +kernel)).mono ?_
  clear hp
  rintro e wn ⟨rfl, hp, hKO⟩
  replace hT := hT.trans hKO
  replace hHeld := hHeld.kept hKO
  clear hKO
  go_wp2_with fail
  refine (first_n hp 5 (by decide +kernel)).mono ?_
  clear hp
  rintro e wn ⟨rfl, hp, hKO⟩
  replace hT := hT.trans hKO
  replace hHeld := hHeld.kept hKO
  clear hKO
  go_wp2_with fail
  refine (pages_n hp 0 rfl).mono ?_
  clear hp
  rintro e wn ⟨rfl, hp, hKO⟩
  replace hT := hT.trans hKO
  replace hHeld := hHeld.kept hKO
  clear hKO
  go_wp2_with fail
  refine (pops_n hp hHeld.nw none 0 0 false [] 9 true (Rd.nil _ _ _) (fun y hy => by simp [blk] at hy) k10 (by decide +kernel) (by decide +kernel) (by decide +kernel)).mono ?_
  clear hp
  rintro e wn ⟨rfl, hp, hKO⟩
  replace hT := hT.trans hKO
  replace hHeld := hHeld.kept hKO
  clear hKO
  obtain ⟨q30, q31⟩ := hHeld.o3.li.at
  go_wp2_with fail
  clear q30 q31
  refine (pushes_n hp hHeld.nw hHeld.t0 hHeld.t1 hHeld.tb (some ⟨g3, 0, none⟩) 1 c3 (ln1 99) hHeld.o3.rd (one_ng hHeld.o3) 5 0 true k11 (by decide +kernel) (by decide +kernel) (by decide +kernel)).mono ?_
  clear hp
  rintro e wn ⟨rfl, hp, hKO⟩
  replace hT := hT.trans hKO
  replace hHeld := hHeld.kept hKO
  clear hKO
  go_wp2_with fail
  refine (limit_n hp hHeld.nw (-1) k11 2 (by decide +kernel) (by decide +kernel)).mono ?_
  clear hp
  rintro e wn ⟨rfl, hp, hKO⟩
  replace hT := hT.trans hKO
  replace hHeld := hHeld.kept hKO
  clear hKO
  go_wp2_with fail
  refine (none8_any (-1) 2 (by decide) _).mono ?_
  rintro e wn ⟨rfl, hkk⟩
  replace hp := hp.keep hkk
  have hKO := KO.of (ok := ok) hkk
  replace hT := hT.trans hKO
  clear hkk
  replace hHeld := hHeld.kept hKO
  clear hKO
  go_wp2_with fail
  refine (none8_any (0) 0 (by decide) _).mono ?_
  rintro e wn ⟨rfl, hkk⟩
  replace hp := hp.keep hkk
  have hKO := KO.of (ok := ok) hkk
  replace hT := hT.trans hKO
  clear hkk
  replace hHeld := hHeld.kept hKO
  clear hKO
  go_wp2_with fail
  refine (New8_any 0 4 wn).mono ?_
  rintro e wn ⟨hkk, hyes, _⟩
  obtain ⟨b', B', rfl, hpg, hB⟩ := hyes (by decide)
  clear hp
  have hp : RP ok wn b' m0 := ⟨B', hpg, fun y hy => hHeld.nw y (hB y hy)⟩
  have hKO := KO.of (ok := ok) hkk
  replace hT := hT.trans hKO
  have hpb' := hpq b'
  clear hyes hpg hB
  replace hHeld := hHeld.kept hKO
  clear hKO
  obtain ⟨q10, q11⟩ := hHeld.o1.li.at
  go_wp2_with fail
  clear q10 q11
  refine (pushes_n hp hHeld.nw hHeld.t0 hHeld.t1 hHeld.tb (some ⟨g1, 0, none⟩) 1 c1 (ln1 97) hHeld.o1.rd (one_ng hHeld.o1) 0 0 true m1 (by decide +kernel) (by decide +kernel) (by decide +kernel)).mono ?_
  clear hp
  rintro e wn ⟨rfl, hp, hKO⟩
  replace hT := hT.trans hKO
  replace hHeld := hHeld.kept hKO
  clear hKO
  go_wp2_with fail
  refine (len_n hp 0 (by decide +kernel)).mono ?_
  clear hp
  rintro e wn ⟨rfl, hp, hKO⟩
  replace hT := hT.trans hKO
  replace hHeld := hHeld.kept hKO
  clear hKO
  go_wp2_with fail
  refine (next_n hp 1 (by decide +kernel)).mono ?_
  clear hp
  rintro e wn ⟨rfl, hp, hKO⟩
  replace hT := hT.trans hKO
  replace hHeld := hHeld.kept hKO
  clear hKO
  go_wp2_with fail
  refine (pages_n hp 0 rfl).mono ?_
  clear hp
  rintro e wn ⟨rfl, hp, hKO⟩
  replace hT := hT.trans hKO
  replace hHeld := hHeld.kept hKO
  clear hKO
  go_wp2_with fail
  go_ret
  exact ⟨rfl, hT.none hw7.out (fun y hy => Nat.le_trans hs67.out (hokw.out y hy))⟩
end Go.Proofs.YtnkddhmhjnhgcaaGreatDoor
