/- The examples of the chapter. -/
import Derived.Test.YtpeedjknjjbabaaDoorShAll
namespace Go.Proofs.YtpeedjknjjbabaaDoor
open Go.RowKit
set_option linter.unusedVariables false
set_option linter.unusedSimpArgs false
set_option maxRecDepth 100000

set_option maxHeartbeats 40000000 in
theorem known7_any (w : World) (ht : Tabs w) (h2 : 2 ≤ w.heap.size) : Calls Tryd.prog 8 #[] w fun e w' => e = .returned (.bool true) ∧ Kept [] w w' := by
  have hpp : ∀ (b : Nat) w1, (binOp .eql 25 (.pointer (some ⟨b, 0, none⟩)) (.pointer none)).run Tryd.prog w1 = .ok (.bool false) w1 := fun b w1 => by kernel_rfl
  have ht0 := hide ht
  clear ht
  go_enter Tryd.func8, Tryd.ntmps8
  go_wp2_with fail
  refine (text7_any 120 w).mono ?_
  rintro e w1 ⟨a1, n1, c1, rfl, ho1, h1a, h1b, hk1⟩
  obtain rfl : 1 = n1 := ho1.rd.clen
  obtain ⟨g1, rfl, _⟩ := ho1.form (by decide)
  go_wp2_with fail
  refine (text7_any 121 w1).mono ?_
  rintro e w2 ⟨a2, n2, c2, rfl, ho2, h2a, h2b, hk2⟩
  obtain rfl : 1 = n2 := ho2.rd.clen
  obtain ⟨g2, rfl, _⟩ := ho2.form (by decide)
  go_wp2_with fail
  refine (text7_any 122 w2).mono ?_
  rintro e w3 ⟨a3, n3, c3, rfl, ho3, h3a, h3b, hk3⟩
  obtain rfl : 1 = n3 := ho3.rd.clen
  obtain ⟨g3, rfl, _⟩ := ho3.form (by decide)
  have hg1 := (ho1.ge g1 (by simp [blk])).2
  have hg2 := (ho2.ge g2 (by simp [blk])).2
  have hg3 := (ho3.ge g3 (by simp [blk])).2
  have hr1 := hide ((ho1.rd.kept hk2 (by simp)).kept hk3 (by simp))
  have hr2 := hide (ho2.rd.kept hk3 (by simp))
  have hr3 := hide ho3.rd
  have hkA := hide ((hk1.trans hk2 (by simp)).trans hk3 (by simp))
  have hsz := hide (And.intro hk1.size (And.intro hk2.size hk3.size))
  clear ho1 ho2 ho3 hk1 hk2 hk3
  have hz1 : Hid (LinIn (((w3.alloc (.cells #[.slice none 0 0, .bool false] 35)).alloc (.cells #[.slice none 0 0, .bool false] 35)).alloc (.cells #[.slice none 0 0, .bool false] 35)) w3.heap.size none 0 0 false) := hide ((LinIn.new w3 none 0 0 false).kept (((Kept.refl [] _).alloc _).alloc _) (by simp))
  have hz2 : Hid (LinIn (((w3.alloc (.cells #[.slice none 0 0, .bool false] 35)).alloc (.cells #[.slice none 0 0, .bool false] 35)).alloc (.cells #[.slice none 0 0, .bool false] 35)) (w3.heap.size + 1) none 0 0 false) := hide (LinIn.kept (heap_new_at (by simp)) ((Kept.refl [] _).alloc _) (by simp))
  have hz3 : Hid (LinIn (((w3.alloc (.cells #[.slice none 0 0, .bool false] 35)).alloc (.cells #[.slice none 0 0, .bool false] 35)).alloc (.cells #[.slice none 0 0, .bool false] 35)) (w3.heap.size + 1 + 1) none 0 0 false) := hide (heap_new_at (by simp))
  have hkz : Hid (Kept [] w3 (((w3.alloc (.cells #[.slice none 0 0, .bool false] 35)).alloc (.cells #[.slice none 0 0, .bool false] 35)).alloc (.cells #[.slice none 0 0, .bool false] 35))) := hide ((((Kept.refl [] w3).alloc _).alloc _).alloc _)
  go_upto_region 2 with (first | refine wpList_store_lin rfl rfl rfl (w3.heap.size + 1 + 1) rfl ((hz3.out.kept j4 (by simp; omega)).kept j5 (by simp)) (some ⟨g3, 0, none⟩) 1 c3 false rfl ?_; intro w6 hb6 j6 | refine wpList_store_lin rfl rfl rfl (w3.heap.size + 1) rfl (hz2.out.kept j4 (by simp)) (some ⟨g2, 0, none⟩) 1 c2 false rfl ?_; intro w5 hb5 j5 | refine wpList_store_lin rfl rfl rfl w3.heap.size rfl hz1.out (some ⟨g1, 0, none⟩) 1 c1 false rfl ?_; intro w4 hb4 j4)
  have hk36 : Kept [] w3 w6 := ((hkz.out.trans j4 (by simp)).trans j5 (by simp)).trans j6 (by simp; omega)
  have hl1 := (hb4.kept j5 (by simp)).kept j6 (by simp; omega)
  have hl2 := hb5.kept j6 (by simp)
  have hl3 := hb6
  have hlt1 := hl1.lt
  have hlt2 := hl2.lt
  have hlt3 := hl3.lt
  have hs36 := hk36.size
  have hw6 := hide (hkA.out.trans hk36 (by simp))
  have hx1 := hr1.out.kept hk36 (by simp)
  have hx2 := hr2.out.kept hk36 (by simp)
  have hx3 := hr3.out.kept hk36 (by simp)
  obtain ⟨hz1s, hz2s, hz3s⟩ := hsz.out
  have ht6 := hide (ht0.out.kept hw6.out)
  clear hz1 hz2 hz3 hkz hb4 hb5 hb6 j4 j5 j6 hr1 hr2 hr3 hkA hk36 hsz
  have hs06 := hw6.out.size
  generalize w3.heap.size + 1 + 1 = b3 at *
  generalize w3.heap.size + 1 = b2 at *
  generalize w3.heap.size = b1 at *
  go_wp2_with fail
  refine (NewS_any 3 w6).mono ?_
  rintro e w7 ⟨hk7, hyes, _⟩
  obtain ⟨b, B, rfl, hpg, hB⟩ := hyes (by decide)
  obtain ⟨ok, hok⟩ : ∃ ok : Nat → Prop, ok = fun y => w6.heap.size ≤ y := ⟨_, rfl⟩
  have hokn : ∀ y, y < w6.heap.size → ¬ ok y := fun y hy h => by rw [hok] at h; omega
  have hoky : ∀ y, w6.heap.size ≤ y → ok y := fun y hy => by rw [hok]; exact hy
  have hokw : Hid (∀ y, ok y → w6.heap.size ≤ y) := hide (fun y hy => by rw [hok] at hy; exact hy)
  have hN : Kn7 ok w7 b1 g1 c1 b2 g2 c2 b3 g3 c3 := ⟨ht6.out.kept hk7, hokn 0 (by omega), hokn 1 (by omega), ⟨hl1.kept hk7 (by simp), hx1.kept hk7 (by simp), hokn _ hlt1, hokn _ (by omega), h1a, h1b⟩, ⟨hl2.kept hk7 (by simp), hx2.kept hk7 (by simp), hokn _ hlt2, hokn _ (by omega), h2a, h2b⟩, ⟨hl3.kept hk7 (by simp), hx3.kept hk7 (by simp), hokn _ hlt3, hokn _ (by omega), h3a, h3b⟩, fun y hy => hoky y (Nat.le_trans hk7.size hy)⟩
  have hp0 : PN ok w7 b s0 := ⟨B, hpg, fun y hy => hoky y (hB y hy)⟩
  have hw7 := hide (hw6.out.trans hk7 (by simp))
  have hs67 := hide hs06
  clear hyes hpg hB hx1 hx2 hx3 hl1 hl2 hl3 ht6 hg1 hg2 hg3 hlt1 hlt2 hlt3 hs36 hz1s hz2s hz3s hk7 hokn hoky h1a h1b h2a h2b h3a h3b hok hs06
  have hpb := hpp b
  go_upto_region 3 with fail
  simp only [List.append_eq, List.cons_append, List.nil_append]
  have hp := hp0.keep (Kept.refl [] w7).drew
  have hT := KO.of (ok := ok) (Kept.refl [] w7).drew
  clear hp0 hpp
  refine wp_region_held_drew (S := (fun w' => Kn7 ok w' b1 g1 c1 b2 g2 c2 b3 g3 c3)) (by kernel_rfl) ?_ (fun hHeld => ?_)
  · (try dsimp only); (first | exact hHeld.kept hKO | exact hN.kept (KO.of (Kept.refl [] w7).drew))
  refine wpAnyH_take (i := 0) (v := ?_) rfl (by kernel_rfl) (by kernel_rfl) (by kernel_rfl) (fun _ _ _ h => h) (Or.inl ⟨by rfl, ?_⟩) (by assumption) ?_
  rotate_left
  · (intro wq hSw; (try dsimp only at hSw); go_simp; try with_reducible rfl)
  try simp only [Act.put, List.getElem_toArray, List.getElem_cons_zero, List.setIfInBounds_toArray, List.set_cons_zero, List.set_cons_succ]
  refine wpAnyH_take (i := 1) (v := ?_) rfl (by kernel_rfl) (by kernel_rfl) (by kernel_rfl) (fun _ _ _ h => h) (Or.inl ⟨by rfl, ?_⟩) (by assumption) ?_
  rotate_left
  · (intro wq hSw; (try dsimp only at hSw); go_simp; try with_reducible rfl)
  try simp only [Act.put, List.getElem_toArray, List.getElem_cons_succ, List.getElem_cons_zero, List.setIfInBounds_toArray, List.set_cons_zero, List.set_cons_succ]
  refine wpAnyH_take (i := 2) (v := ?_) rfl (by kernel_rfl) (by kernel_rfl) (by kernel_rfl) (fun _ _ _ h => h) (Or.inl ⟨by rfl, ?_⟩) (by assumption) ?_
  rotate_left
  · (intro wq hSw; (try dsimp only at hSw); go_simp; try with_reducible rfl)
  try simp only [Act.put, List.getElem_toArray, List.getElem_cons_succ, List.getElem_cons_zero, List.setIfInBounds_toArray, List.set_cons_zero, List.set_cons_succ]
  refine wpAnyH_take (i := 3) (v := ?_) rfl (by kernel_rfl) (by kernel_rfl) (by kernel_rfl) (fun _ _ _ h => h) (Or.inl ⟨by rfl, ?_⟩) (by assumption) ?_
  rotate_left
  · (intro wq hSw; (try dsimp only at hSw); go_simp; try with_reducible rfl)
  try simp only [Act.put, List.getElem_toArray, List.getElem_cons_succ, List.getElem_cons_zero, List.setIfInBounds_toArray, List.set_cons_zero, List.set_cons_succ]
  refine wpAnyH_take (i := 4) (v := ?_) rfl (by kernel_rfl) (by kernel_rfl) (by kernel_rfl) (fun _ _ _ h => h) (Or.inl ⟨by rfl, ?_⟩) (by assumption) ?_
  rotate_left
  · (intro wq hSw; (try dsimp only at hSw); go_simp; try with_reducible rfl)
  try simp only [Act.put, List.getElem_toArray, List.getElem_cons_succ, List.getElem_cons_zero, List.setIfInBounds_toArray, List.set_cons_zero, List.set_cons_succ]
  refine wpAnyH_take (i := 5) (v := ?_) rfl (by kernel_rfl) (by kernel_rfl) (by kernel_rfl) (fun _ _ _ h => h) (Or.inl ⟨by rfl, ?_⟩) (by assumption) ?_
  rotate_left
  · (intro wq hSw; (try dsimp only at hSw); go_simp; try with_reducible rfl)
  try simp only [Act.put, List.getElem_toArray, List.getElem_cons_succ, List.getElem_cons_zero, List.setIfInBounds_toArray, List.set_cons_zero, List.set_cons_succ]
  refine wpAnyH_take (i := 6) (v := ?_) rfl (by kernel_rfl) (by kernel_rfl) (by kernel_rfl) (fun _ _ _ h => h) (Or.inl ⟨by rfl, ?_⟩) (by assumption) ?_
  rotate_left
  · (intro wq hSw; (try dsimp only at hSw); go_simp; try with_reducible rfl)
  try simp only [Act.put, List.getElem_toArray, List.getElem_cons_succ, List.getElem_cons_zero, List.setIfInBounds_toArray, List.set_cons_zero, List.set_cons_succ]
  refine wpAnyH_take (i := 7) (v := ?_) rfl (by kernel_rfl) (by kernel_rfl) (by kernel_rfl) (fun _ _ _ h => h) (Or.inl ⟨by rfl, ?_⟩) (by assumption) ?_
  rotate_left
  · (intro wq hSw; (try dsimp only at hSw); go_simp; try with_reducible rfl)
  try simp only [Act.put, List.getElem_toArray, List.getElem_cons_succ, List.getElem_cons_zero, List.setIfInBounds_toArray, List.set_cons_zero, List.set_cons_succ]
  refine wpAnyH_take (i := 8) (v := (.agg #[.slice (some ⟨g1, 0, none⟩) 1 c1, .bool false])) rfl (by kernel_rfl) (by kernel_rfl) (by kernel_rfl) (fun _ _ _ h => h) (yieldsIf_load_mid (by rfl) 35 _ rfl b1 0 rfl (linL (some ⟨g1, 0, none⟩) 1 c1 false) _ (fun _ h => h.o1.li.range) Tryd.underlying35 rfl (by kernel_rfl)) (by assumption) ?_
  try simp only [Act.put, List.getElem_toArray, List.getElem_cons_succ, List.getElem_cons_zero, List.setIfInBounds_toArray, List.set_cons_zero, List.set_cons_succ]
  refine wpAnyH_ready (rs := [9]) (by kernel_rfl) (by simp) ?_
  refine AllReadyH.cons rfl (fun K hK => ?_) AllReadyH.nil
  go_simp
  refine (push_n hp hHeld.nw hHeld.tb (some ⟨g1, 0, none⟩) 1 c1 kX hHeld.o1.rd s1 0 (by decide +kernel)).mono ?_; rintro e wn ⟨rfl, hp, hKO⟩; have hT := hT.trans hKO
  try go_wp2_with fail
  refine hK.out _ _ ?_ (fun hHeld => ?_)
  · (try dsimp only); (first | exact hHeld.kept hKO | exact hN.kept (KO.of (Kept.refl [] w7).drew))
  clear hK K
  try simp only [Act.put, List.getElem_toArray, List.getElem_cons_succ, List.getElem_cons_zero, List.setIfInBounds_toArray, List.set_cons_zero, List.set_cons_succ]
  refine wpAnyH_take (i := 10) (v := ?_) rfl (by kernel_rfl) (by kernel_rfl) (by kernel_rfl) (fun _ _ _ h => h) (Or.inl ⟨by rfl, ?_⟩) (by assumption) ?_
  rotate_left
  · (intro wq hSw; (try dsimp only at hSw); go_simp; try with_reducible rfl)
  try simp only [Act.put, List.getElem_toArray, List.getElem_cons_succ, List.getElem_cons_zero, List.setIfInBounds_toArray, List.set_cons_zero, List.set_cons_succ]
  refine wpAnyH_take (i := 11) (v := ?_) rfl (by kernel_rfl) (by kernel_rfl) (by kernel_rfl) (fun _ _ _ h => h) (Or.inl ⟨by rfl, ?_⟩) (by assumption) ?_
  rotate_left
  · (intro wq hSw; (try dsimp only at hSw); go_simp; try with_reducible rfl)
  try simp only [Act.put, List.getElem_toArray, List.getElem_cons_succ, List.getElem_cons_zero, List.setIfInBounds_toArray, List.set_cons_zero, List.set_cons_succ]
  refine wpAnyH_take (i := 12) (v := ?_) rfl (by kernel_rfl) (by kernel_rfl) (by kernel_rfl) (fun _ _ _ h => h) (Or.inl ⟨by rfl, ?_⟩) (by assumption) ?_
  rotate_left
  · (intro wq hSw; (try dsimp only at hSw); go_simp; try with_reducible rfl)
  try simp only [Act.put, List.getElem_toArray, List.getElem_cons_succ, List.getElem_cons_zero, List.setIfInBounds_toArray, List.set_cons_zero, List.set_cons_succ]
  refine wpAnyH_take (i := 13) (v := ?_) rfl (by kernel_rfl) (by kernel_rfl) (by kernel_rfl) (fun _ _ _ h => h) (Or.inl ⟨by rfl, ?_⟩) (by assumption) ?_
  rotate_left
  · (intro wq hSw; (try dsimp only at hSw); go_simp; try with_reducible rfl)
  try simp only [Act.put, List.getElem_toArray, List.getElem_cons_succ, List.getElem_cons_zero, List.setIfInBounds_toArray, List.set_cons_zero, List.set_cons_succ]
  refine wpAnyH_take (i := 14) (v := (.agg #[.slice (some ⟨g2, 0, none⟩) 1 c2, .bool false])) rfl (by kernel_rfl) (by kernel_rfl) (by kernel_rfl) (fun _ _ _ h => h) (yieldsIf_load_mid (by rfl) 35 _ rfl b2 0 rfl (linL (some ⟨g2, 0, none⟩) 1 c2 false) _ (fun _ h => h.o2.li.range) Tryd.underlying35 rfl (by kernel_rfl)) (by assumption) ?_
  try simp only [Act.put, List.getElem_toArray, List.getElem_cons_succ, List.getElem_cons_zero, List.setIfInBounds_toArray, List.set_cons_zero, List.set_cons_succ]
  refine wpAnyH_ready (rs := [15]) (by kernel_rfl) (by simp) ?_
  refine AllReadyH.cons rfl (fun K hK => ?_) AllReadyH.nil
  go_simp
  refine (push_n hp hHeld.nw hHeld.tb (some ⟨g2, 0, none⟩) 1 c2 kY hHeld.o2.rd s2 0 (by decide +kernel)).mono ?_; rintro e wn ⟨rfl, hp, hKO⟩; have hT := hT.trans hKO
  try go_wp2_with fail
  refine hK.out _ _ ?_ (fun hHeld => ?_)
  · (try dsimp only); (first | exact hHeld.kept hKO | exact hN.kept (KO.of (Kept.refl [] w7).drew))
  clear hK K
  try simp only [Act.put, List.getElem_toArray, List.getElem_cons_succ, List.getElem_cons_zero, List.setIfInBounds_toArray, List.set_cons_zero, List.set_cons_succ]
  refine wpAnyH_take (i := 16) (v := ?_) rfl (by kernel_rfl) (by kernel_rfl) (by kernel_rfl) (fun _ _ _ h => h) (Or.inl ⟨by rfl, ?_⟩) (by assumption) ?_
  rotate_left
  · (intro wq hSw; (try dsimp only at hSw); go_simp; try with_reducible rfl)
  try simp only [Act.put, List.getElem_toArray, List.getElem_cons_succ, List.getElem_cons_zero, List.setIfInBounds_toArray, List.set_cons_zero, List.set_cons_succ]
  refine wpAnyH_take (i := 17) (v := ?_) rfl (by kernel_rfl) (by kernel_rfl) (by kernel_rfl) (fun _ _ _ h => h) (Or.inl ⟨by rfl, ?_⟩) (by assumption) ?_
  rotate_left
  · (intro wq hSw; (try dsimp only at hSw); go_simp; try with_reducible rfl)
  try simp only [Act.put, List.getElem_toArray, List.getElem_cons_succ, List.getElem_cons_zero, List.setIfInBounds_toArray, List.set_cons_zero, List.set_cons_succ]
  refine wpAnyH_take (i := 18) (v := ?_) rfl (by kernel_rfl) (by kernel_rfl) (by kernel_rfl) (fun _ _ _ h => h) (Or.inl ⟨by rfl, ?_⟩) (by assumption) ?_
  rotate_left
  · (intro wq hSw; (try dsimp only at hSw); go_simp; try with_reducible rfl)
  try simp only [Act.put, List.getElem_toArray, List.getElem_cons_succ, List.getElem_cons_zero, List.setIfInBounds_toArray, List.set_cons_zero, List.set_cons_succ]
  refine wpAnyH_take (i := 19) (v := ?_) rfl (by kernel_rfl) (by kernel_rfl) (by kernel_rfl) (fun _ _ _ h => h) (Or.inl ⟨by rfl, ?_⟩) (by assumption) ?_
  rotate_left
  · (intro wq hSw; (try dsimp only at hSw); go_simp; try with_reducible rfl)
  try simp only [Act.put, List.getElem_toArray, List.getElem_cons_succ, List.getElem_cons_zero, List.setIfInBounds_toArray, List.set_cons_zero, List.set_cons_succ]
  refine wpAnyH_ready (rs := [20]) (by kernel_rfl) (by simp) ?_
  refine AllReadyH.cons rfl (fun K hK => ?_) AllReadyH.nil
  go_simp
  refine (drop_n hp hHeld.nw 1 s3 0 (by decide +kernel)).mono ?_; rintro e wn ⟨rfl, hp, hKO⟩; have hT := hT.trans hKO
  try go_wp2_with fail
  refine hK.out _ _ ?_ (fun hHeld => ?_)
  · (try dsimp only); (first | exact hHeld.kept hKO | exact hN.kept (KO.of (Kept.refl [] w7).drew))
  clear hK K
  try simp only [Act.put, List.getElem_toArray, List.getElem_cons_succ, List.getElem_cons_zero, List.setIfInBounds_toArray, List.set_cons_zero, List.set_cons_succ]
  refine wpAnyH_take (i := 21) (v := ?_) rfl (by kernel_rfl) (by kernel_rfl) (by kernel_rfl) (fun _ _ _ h => h) (Or.inl ⟨by rfl, ?_⟩) (by assumption) ?_
  rotate_left
  · (intro wq hSw; (try dsimp only at hSw); go_simp; try with_reducible rfl)
  try simp only [Act.put, List.getElem_toArray, List.getElem_cons_succ, List.getElem_cons_zero, List.setIfInBounds_toArray, List.set_cons_zero, List.set_cons_succ]
  refine wpAnyH_take (i := 22) (v := ?_) rfl (by kernel_rfl) (by kernel_rfl) (by kernel_rfl) (fun _ _ _ h => h) (Or.inl ⟨by rfl, ?_⟩) (by assumption) ?_
  rotate_left
  · (intro wq hSw; (try dsimp only at hSw); go_simp; try with_reducible rfl)
  try simp only [Act.put, List.getElem_toArray, List.getElem_cons_succ, List.getElem_cons_zero, List.setIfInBounds_toArray, List.set_cons_zero, List.set_cons_succ]
  refine wpAnyH_take (i := 23) (v := ?_) rfl (by kernel_rfl) (by kernel_rfl) (by kernel_rfl) (fun _ _ _ h => h) (Or.inl ⟨by rfl, ?_⟩) (by assumption) ?_
  rotate_left
  · (intro wq hSw; (try dsimp only at hSw); go_simp; try with_reducible rfl)
  try simp only [Act.put, List.getElem_toArray, List.getElem_cons_succ, List.getElem_cons_zero, List.setIfInBounds_toArray, List.set_cons_zero, List.set_cons_succ]
  refine wpAnyH_take (i := 24) (v := ?_) rfl (by kernel_rfl) (by kernel_rfl) (by kernel_rfl) (fun _ _ _ h => h) (Or.inl ⟨by rfl, ?_⟩) (by assumption) ?_
  rotate_left
  · (intro wq hSw; (try dsimp only at hSw); go_simp; try with_reducible rfl)
  try simp only [Act.put, List.getElem_toArray, List.getElem_cons_succ, List.getElem_cons_zero, List.setIfInBounds_toArray, List.set_cons_zero, List.set_cons_succ]
  refine wpAnyH_take (i := 25) (v := (.agg #[.slice (some ⟨g2, 0, none⟩) 1 c2, .bool false])) rfl (by kernel_rfl) (by kernel_rfl) (by kernel_rfl) (fun _ _ _ h => h) (yieldsIf_load_mid (by rfl) 35 _ rfl b2 0 rfl (linL (some ⟨g2, 0, none⟩) 1 c2 false) _ (fun _ h => h.o2.li.range) Tryd.underlying35 rfl (by kernel_rfl)) (by assumption) ?_
  try simp only [Act.put, List.getElem_toArray, List.getElem_cons_succ, List.getElem_cons_zero, List.setIfInBounds_toArray, List.set_cons_zero, List.set_cons_succ]
  refine wpAnyH_ready (rs := [26]) (by kernel_rfl) (by simp) ?_
  refine AllReadyH.cons rfl (fun K hK => ?_) AllReadyH.nil
  go_simp
  refine (gets_n hp 0 (some ⟨g2, 0, none⟩) 1 c2 false [runeC 121] 0 true hHeld.o2.rd (by decide +kernel)).mono ?_; rintro e wn ⟨rfl, hp, hKO⟩; have hT := hT.trans hKO
  try go_wp2_with fail
  refine hK.out _ _ ?_ (fun hHeld => ?_)
  · (try dsimp only); (first | exact hHeld.kept hKO | exact hN.kept (KO.of (Kept.refl [] w7).drew))
  clear hK K
  try simp only [Act.put, List.getElem_toArray, List.getElem_cons_succ, List.getElem_cons_zero, List.setIfInBounds_toArray, List.set_cons_zero, List.set_cons_succ]
  refine wpAnyH_take (i := 27) (v := ?_) rfl (by kernel_rfl) (by kernel_rfl) (by kernel_rfl) (fun _ _ _ h => h) (Or.inl ⟨by rfl, ?_⟩) (by assumption) ?_
  rotate_left
  · (intro wq hSw; (try dsimp only at hSw); go_simp; try with_reducible rfl)
  try simp only [Act.put, List.getElem_toArray, List.getElem_cons_succ, List.getElem_cons_zero, List.setIfInBounds_toArray, List.set_cons_zero, List.set_cons_succ]
  refine wpAnyH_take (i := 28) (v := ?_) rfl (by kernel_rfl) (by kernel_rfl) (by kernel_rfl) (fun _ _ _ h => h) (Or.inl ⟨by rfl, ?_⟩) (by assumption) ?_
  rotate_left
  · (intro wq hSw; (try dsimp only at hSw); go_simp; try with_reducible rfl)
  try simp only [Act.put, List.getElem_toArray, List.getElem_cons_succ, List.getElem_cons_zero, List.setIfInBounds_toArray, List.set_cons_zero, List.set_cons_succ]
  refine wpAnyH_take (i := 29) (v := ?_) rfl (by kernel_rfl) (by kernel_rfl) (by kernel_rfl) (fun _ _ _ h => h) (Or.inl ⟨by rfl, ?_⟩) (by assumption) ?_
  rotate_left
  · (intro wq hSw; (try dsimp only at hSw); go_simp; try with_reducible rfl)
  try simp only [Act.put, List.getElem_toArray, List.getElem_cons_succ, List.getElem_cons_zero, List.setIfInBounds_toArray, List.set_cons_zero, List.set_cons_succ]
  refine wpAnyH_take (i := 30) (v := ?_) rfl (by kernel_rfl) (by kernel_rfl) (by kernel_rfl) (fun _ _ _ h => h) (Or.inl ⟨by rfl, ?_⟩) (by assumption) ?_
  rotate_left
  · (intro wq hSw; (try dsimp only at hSw); go_simp; try with_reducible rfl)
  try simp only [Act.put, List.getElem_toArray, List.getElem_cons_succ, List.getElem_cons_zero, List.setIfInBounds_toArray, List.set_cons_zero, List.set_cons_succ]
  refine wpAnyH_ready (rs := [31]) (by kernel_rfl) (by simp) ?_
  refine AllReadyH.cons rfl (fun K hK => ?_) AllReadyH.nil
  go_simp
  refine (room_n hp 1 (by decide +kernel)).mono ?_; rintro e wn ⟨rfl, hp, hKO⟩; have hT := hT.trans hKO
  try go_wp2_with fail
  refine hK.out _ _ ?_ (fun hHeld => ?_)
  · (try dsimp only); (first | exact hHeld.kept hKO | exact hN.kept (KO.of (Kept.refl [] w7).drew))
  clear hK K
  try simp only [Act.put, List.getElem_toArray, List.getElem_cons_succ, List.getElem_cons_zero, List.setIfInBounds_toArray, List.set_cons_zero, List.set_cons_succ]
  refine wpAnyH_take (i := 32) (v := ?_) rfl (by kernel_rfl) (by kernel_rfl) (by kernel_rfl) (fun _ _ _ h => h) (Or.inl ⟨by rfl, ?_⟩) (by assumption) ?_
  rotate_left
  · (intro wq hSw; (try dsimp only at hSw); go_simp; try with_reducible rfl)
  try simp only [Act.put, List.getElem_toArray, List.getElem_cons_succ, List.getElem_cons_zero, List.setIfInBounds_toArray, List.set_cons_zero, List.set_cons_succ]
  refine wpAnyH_take (i := 33) (v := ?_) rfl (by kernel_rfl) (by kernel_rfl) (by kernel_rfl) (fun _ _ _ h => h) (Or.inl ⟨by rfl, ?_⟩) (by assumption) ?_
  rotate_left
  · (intro wq hSw; (try dsimp only at hSw); go_simp; try with_reducible rfl)
  try simp only [Act.put, List.getElem_toArray, List.getElem_cons_succ, List.getElem_cons_zero, List.setIfInBounds_toArray, List.set_cons_zero, List.set_cons_succ]
  refine wpAnyH_take (i := 34) (v := ?_) rfl (by kernel_rfl) (by kernel_rfl) (by kernel_rfl) (fun _ _ _ h => h) (Or.inl ⟨by rfl, ?_⟩) (by assumption) ?_
  rotate_left
  · (intro wq hSw; (try dsimp only at hSw); go_simp; try with_reducible rfl)
  try simp only [Act.put, List.getElem_toArray, List.getElem_cons_succ, List.getElem_cons_zero, List.setIfInBounds_toArray, List.set_cons_zero, List.set_cons_succ]
  refine wpAnyH_take (i := 35) (v := ?_) rfl (by kernel_rfl) (by kernel_rfl) (by kernel_rfl) (fun _ _ _ h => h) (Or.inl ⟨by rfl, ?_⟩) (by assumption) ?_
  rotate_left
  · (intro wq hSw; (try dsimp only at hSw); go_simp; try with_reducible rfl)
  try simp only [Act.put, List.getElem_toArray, List.getElem_cons_succ, List.getElem_cons_zero, List.setIfInBounds_toArray, List.set_cons_zero, List.set_cons_succ]
  refine wpAnyH_ready (rs := [36]) (by kernel_rfl) (by simp) ?_
  refine AllReadyH.cons rfl (fun K hK => ?_) AllReadyH.nil
  go_simp
  refine (gone_n hp 1 (by decide +kernel)).mono ?_; rintro e wn ⟨rfl, hp, hKO⟩; have hT := hT.trans hKO
  try go_wp2_with fail
  refine hK.out _ _ ?_ (fun hHeld => ?_)
  · (try dsimp only); (first | exact hHeld.kept hKO | exact hN.kept (KO.of (Kept.refl [] w7).drew))
  clear hK K
  try simp only [Act.put, List.getElem_toArray, List.getElem_cons_succ, List.getElem_cons_zero, List.setIfInBounds_toArray, List.set_cons_zero, List.set_cons_succ]
  refine wpAnyH_take (i := 37) (v := ?_) rfl (by kernel_rfl) (by kernel_rfl) (by kernel_rfl) (fun _ _ _ h => h) (Or.inl ⟨by rfl, ?_⟩) (by assumption) ?_
  rotate_left
  · (intro wq hSw; (try dsimp only at hSw); go_simp; try with_reducible rfl)
  try simp only [Act.put, List.getElem_toArray, List.getElem_cons_succ, List.getElem_cons_zero, List.setIfInBounds_toArray, List.set_cons_zero, List.set_cons_succ]
  refine wpAnyH_take (i := 38) (v := ?_) rfl (by kernel_rfl) (by kernel_rfl) (by kernel_rfl) (fun _ _ _ h => h) (Or.inl ⟨by rfl, ?_⟩) (by assumption) ?_
  rotate_left
  · (intro wq hSw; (try dsimp only at hSw); go_simp; try with_reducible rfl)
  try simp only [Act.put, List.getElem_toArray, List.getElem_cons_succ, List.getElem_cons_zero, List.setIfInBounds_toArray, List.set_cons_zero, List.set_cons_succ]
  refine wpAnyH_take (i := 39) (v := ?_) rfl (by kernel_rfl) (by kernel_rfl) (by kernel_rfl) (fun _ _ _ h => h) (Or.inl ⟨by rfl, ?_⟩) (by assumption) ?_
  rotate_left
  · (intro wq hSw; (try dsimp only at hSw); go_simp; try with_reducible rfl)
  try simp only [Act.put, List.getElem_toArray, List.getElem_cons_succ, List.getElem_cons_zero, List.setIfInBounds_toArray, List.set_cons_zero, List.set_cons_succ]
  refine wpAnyH_take (i := 40) (v := ?_) rfl (by kernel_rfl) (by kernel_rfl) (by kernel_rfl) (fun _ _ _ h => h) (Or.inl ⟨by rfl, ?_⟩) (by assumption) ?_
  rotate_left
  · (intro wq hSw; (try dsimp only at hSw); go_simp; try with_reducible rfl)
  try simp only [Act.put, List.getElem_toArray, List.getElem_cons_succ, List.getElem_cons_zero, List.setIfInBounds_toArray, List.set_cons_zero, List.set_cons_succ]
  refine wpAnyH_take (i := 41) (v := (.agg #[.slice (some ⟨g3, 0, none⟩) 1 c3, .bool false])) rfl (by kernel_rfl) (by kernel_rfl) (by kernel_rfl) (fun _ _ _ h => h) (yieldsIf_load_mid (by rfl) 35 _ rfl b3 0 rfl (linL (some ⟨g3, 0, none⟩) 1 c3 false) _ (fun _ h => h.o3.li.range) Tryd.underlying35 rfl (by kernel_rfl)) (by assumption) ?_
  try simp only [Act.put, List.getElem_toArray, List.getElem_cons_succ, List.getElem_cons_zero, List.setIfInBounds_toArray, List.set_cons_zero, List.set_cons_succ]
  refine wpAnyH_ready (rs := [42]) (by kernel_rfl) (by simp) ?_
  refine AllReadyH.cons rfl (fun K hK => ?_) AllReadyH.nil
  go_simp
  refine (push_n hp hHeld.nw hHeld.tb (some ⟨g3, 0, none⟩) 1 c3 kZ hHeld.o3.rd s4 0 (by decide +kernel)).mono ?_; rintro e wn ⟨rfl, hp, hKO⟩; have hT := hT.trans hKO
  try go_wp2_with fail
  refine hK.out _ _ ?_ (fun hHeld => ?_)
  · (try dsimp only); (first | exact hHeld.kept hKO | exact hN.kept (KO.of (Kept.refl [] w7).drew))
  clear hK K
  try simp only [Act.put, List.getElem_toArray, List.getElem_cons_succ, List.getElem_cons_zero, List.setIfInBounds_toArray, List.set_cons_zero, List.set_cons_succ]
  refine wpAnyH_take (i := 43) (v := ?_) rfl (by kernel_rfl) (by kernel_rfl) (by kernel_rfl) (fun _ _ _ h => h) (Or.inl ⟨by rfl, ?_⟩) (by assumption) ?_
  rotate_left
  · (intro wq hSw; (try dsimp only at hSw); go_simp; try with_reducible rfl)
  try simp only [Act.put, List.getElem_toArray, List.getElem_cons_succ, List.getElem_cons_zero, List.setIfInBounds_toArray, List.set_cons_zero, List.set_cons_succ]
  refine wpAnyH_take (i := 44) (v := ?_) rfl (by kernel_rfl) (by kernel_rfl) (by kernel_rfl) (fun _ _ _ h => h) (Or.inl ⟨by rfl, ?_⟩) (by assumption) ?_
  rotate_left
  · (intro wq hSw; (try dsimp only at hSw); go_simp; try with_reducible rfl)
  try simp only [Act.put, List.getElem_toArray, List.getElem_cons_succ, List.getElem_cons_zero, List.setIfInBounds_toArray, List.set_cons_zero, List.set_cons_succ]
  refine wpAnyH_take (i := 45) (v := ?_) rfl (by kernel_rfl) (by kernel_rfl) (by kernel_rfl) (fun _ _ _ h => h) (Or.inl ⟨by rfl, ?_⟩) (by assumption) ?_
  rotate_left
  · (intro wq hSw; (try dsimp only at hSw); go_simp; try with_reducible rfl)
  try simp only [Act.put, List.getElem_toArray, List.getElem_cons_succ, List.getElem_cons_zero, List.setIfInBounds_toArray, List.set_cons_zero, List.set_cons_succ]
  refine wpAnyH_take (i := 46) (v := ?_) rfl (by kernel_rfl) (by kernel_rfl) (by kernel_rfl) (fun _ _ _ h => h) (Or.inl ⟨by rfl, ?_⟩) (by assumption) ?_
  rotate_left
  · (intro wq hSw; (try dsimp only at hSw); go_simp; try with_reducible rfl)
  try simp only [Act.put, List.getElem_toArray, List.getElem_cons_succ, List.getElem_cons_zero, List.setIfInBounds_toArray, List.set_cons_zero, List.set_cons_succ]
  refine wpAnyH_take (i := 47) (v := (.agg #[.slice (some ⟨g1, 0, none⟩) 1 c1, .bool false])) rfl (by kernel_rfl) (by kernel_rfl) (by kernel_rfl) (fun _ _ _ h => h) (yieldsIf_load_mid (by rfl) 35 _ rfl b1 0 rfl (linL (some ⟨g1, 0, none⟩) 1 c1 false) _ (fun _ h => h.o1.li.range) Tryd.underlying35 rfl (by kernel_rfl)) (by assumption) ?_
  try simp only [Act.put, List.getElem_toArray, List.getElem_cons_succ, List.getElem_cons_zero, List.setIfInBounds_toArray, List.set_cons_zero, List.set_cons_succ]
  refine wpAnyH_ready (rs := [48]) (by kernel_rfl) (by simp) ?_
  refine AllReadyH.cons rfl (fun K hK => ?_) AllReadyH.nil
  go_simp
  refine (push_n hp hHeld.nw hHeld.tb (some ⟨g1, 0, none⟩) 1 c1 kX hHeld.o1.rd s4 7 (by decide +kernel)).mono ?_; rintro e wn ⟨rfl, hp, hKO⟩; have hT := hT.trans hKO
  try go_wp2_with fail
  refine hK.out _ _ ?_ (fun hHeld => ?_)
  · (try dsimp only); (first | exact hHeld.kept hKO | exact hN.kept (KO.of (Kept.refl [] w7).drew))
  clear hK K
  try simp only [Act.put, List.getElem_toArray, List.getElem_cons_succ, List.getElem_cons_zero, List.setIfInBounds_toArray, List.set_cons_zero, List.set_cons_succ]
  refine wpAnyH_take (i := 49) (v := ?_) rfl (by kernel_rfl) (by kernel_rfl) (by kernel_rfl) (fun _ _ _ h => h) (Or.inl ⟨by rfl, ?_⟩) (by assumption) ?_
  rotate_left
  · (intro wq hSw; (try dsimp only at hSw); go_simp; try with_reducible rfl)
  try simp only [Act.put, List.getElem_toArray, List.getElem_cons_succ, List.getElem_cons_zero, List.setIfInBounds_toArray, List.set_cons_zero, List.set_cons_succ]
  refine wpAnyH_take (i := 50) (v := ?_) rfl (by kernel_rfl) (by kernel_rfl) (by kernel_rfl) (fun _ _ _ h => h) (Or.inl ⟨by rfl, ?_⟩) (by assumption) ?_
  rotate_left
  · (intro wq hSw; (try dsimp only at hSw); go_simp; try with_reducible rfl)
  try simp only [Act.put, List.getElem_toArray, List.getElem_cons_succ, List.getElem_cons_zero, List.setIfInBounds_toArray, List.set_cons_zero, List.set_cons_succ]
  refine wpAnyH_take (i := 51) (v := ?_) rfl (by kernel_rfl) (by kernel_rfl) (by kernel_rfl) (fun _ _ _ h => h) (Or.inl ⟨by rfl, ?_⟩) (by assumption) ?_
  rotate_left
  · (intro wq hSw; (try dsimp only at hSw); go_simp; try with_reducible rfl)
  try simp only [Act.put, List.getElem_toArray, List.getElem_cons_succ, List.getElem_cons_zero, List.setIfInBounds_toArray, List.set_cons_zero, List.set_cons_succ]
  refine wpAnyH_take (i := 52) (v := ?_) rfl (by kernel_rfl) (by kernel_rfl) (by kernel_rfl) (fun _ _ _ h => h) (Or.inl ⟨by rfl, ?_⟩) (by assumption) ?_
  rotate_left
  · (intro wq hSw; (try dsimp only at hSw); go_simp; try with_reducible rfl)
  try simp only [Act.put, List.getElem_toArray, List.getElem_cons_succ, List.getElem_cons_zero, List.setIfInBounds_toArray, List.set_cons_zero, List.set_cons_succ]
  refine wpAnyH_take (i := 53) (v := (.agg #[.slice (some ⟨g3, 0, none⟩) 1 c3, .bool false])) rfl (by kernel_rfl) (by kernel_rfl) (by kernel_rfl) (fun _ _ _ h => h) (yieldsIf_load_mid (by rfl) 35 _ rfl b3 0 rfl (linL (some ⟨g3, 0, none⟩) 1 c3 false) _ (fun _ h => h.o3.li.range) Tryd.underlying35 rfl (by kernel_rfl)) (by assumption) ?_
  try simp only [Act.put, List.getElem_toArray, List.getElem_cons_succ, List.getElem_cons_zero, List.setIfInBounds_toArray, List.set_cons_zero, List.set_cons_succ]
  refine wpAnyH_ready (rs := [54]) (by kernel_rfl) (by simp) ?_
  refine AllReadyH.cons rfl (fun K hK => ?_) AllReadyH.nil
  go_simp
  refine (pops_n hp hHeld.nw (some ⟨g3, 0, none⟩) 1 c3 false [runeC 122] 0 true hHeld.o3.rd (by simp [blk]; exact hHeld.o3.ng) (by decide +kernel) s3 (by decide +kernel)).mono ?_; rintro e wn ⟨rfl, hp, hKO⟩; have hT := hT.trans hKO
  try go_wp2_with fail
  refine hK.out _ _ ?_ (fun hHeld => ?_)
  · (try dsimp only); (first | exact hHeld.kept hKO | exact hN.kept (KO.of (Kept.refl [] w7).drew))
  clear hK K
  try simp only [Act.put, List.getElem_toArray, List.getElem_cons_succ, List.getElem_cons_zero, List.setIfInBounds_toArray, List.set_cons_zero, List.set_cons_succ]
  refine wpAnyH_take (i := 55) (v := ?_) rfl (by kernel_rfl) (by kernel_rfl) (by kernel_rfl) (fun _ _ _ h => h) (Or.inl ⟨by rfl, ?_⟩) (by assumption) ?_
  rotate_left
  · (intro wq hSw; (try dsimp only at hSw); go_simp; try with_reducible rfl)
  try simp only [Act.put, List.getElem_toArray, List.getElem_cons_succ, List.getElem_cons_zero, List.setIfInBounds_toArray, List.set_cons_zero, List.set_cons_succ]
  refine wpAnyH_take (i := 56) (v := ?_) rfl (by kernel_rfl) (by kernel_rfl) (by kernel_rfl) (fun _ _ _ h => h) (Or.inl ⟨by rfl, ?_⟩) (by assumption) ?_
  rotate_left
  · (intro wq hSw; (try dsimp only at hSw); go_simp; try with_reducible rfl)
  try simp only [Act.put, List.getElem_toArray, List.getElem_cons_succ, List.getElem_cons_zero, List.setIfInBounds_toArray, List.set_cons_zero, List.set_cons_succ]
  refine wpAnyH_take (i := 57) (v := ?_) rfl (by kernel_rfl) (by kernel_rfl) (by kernel_rfl) (fun _ _ _ h => h) (Or.inl ⟨by rfl, ?_⟩) (by assumption) ?_
  rotate_left
  · (intro wq hSw; (try dsimp only at hSw); go_simp; try with_reducible rfl)
  try simp only [Act.put, List.getElem_toArray, List.getElem_cons_succ, List.getElem_cons_zero, List.setIfInBounds_toArray, List.set_cons_zero, List.set_cons_succ]
  refine wpAnyH_take (i := 58) (v := ?_) rfl (by kernel_rfl) (by kernel_rfl) (by kernel_rfl) (fun _ _ _ h => h) (Or.inl ⟨by rfl, ?_⟩) (by assumption) ?_
  rotate_left
  · (intro wq hSw; (try dsimp only at hSw); go_simp; try with_reducible rfl)
  try simp only [Act.put, List.getElem_toArray, List.getElem_cons_succ, List.getElem_cons_zero, List.setIfInBounds_toArray, List.set_cons_zero, List.set_cons_succ]
  refine wpAnyH_take (i := 59) (v := (.agg #[.slice (some ⟨g1, 0, none⟩) 1 c1, .bool false])) rfl (by kernel_rfl) (by kernel_rfl) (by kernel_rfl) (fun _ _ _ h => h) (yieldsIf_load_mid (by rfl) 35 _ rfl b1 0 rfl (linL (some ⟨g1, 0, none⟩) 1 c1 false) _ (fun _ h => h.o1.li.range) Tryd.underlying35 rfl (by kernel_rfl)) (by assumption) ?_
  try simp only [Act.put, List.getElem_toArray, List.getElem_cons_succ, List.getElem_cons_zero, List.setIfInBounds_toArray, List.set_cons_zero, List.set_cons_succ]
  refine wpAnyH_ready (rs := [60]) (by kernel_rfl) (by simp) ?_
  refine AllReadyH.cons rfl (fun K hK => ?_) AllReadyH.nil
  go_simp
  refine (push_n hp hHeld.nw hHeld.tb (some ⟨g1, 0, none⟩) 1 c1 kX hHeld.o1.rd s5 0 (by decide +kernel)).mono ?_; rintro e wn ⟨rfl, hp, hKO⟩; have hT := hT.trans hKO
  try go_wp2_with fail
  refine hK.out _ _ ?_ (fun hHeld => ?_)
  · (try dsimp only); (first | exact hHeld.kept hKO | exact hN.kept (KO.of (Kept.refl [] w7).drew))
  clear hK K
  try simp only [Act.put, List.getElem_toArray, List.getElem_cons_succ, List.getElem_cons_zero, List.setIfInBounds_toArray, List.set_cons_zero, List.set_cons_succ]
  refine wpAnyH_take (i := 61) (v := ?_) rfl (by kernel_rfl) (by kernel_rfl) (by kernel_rfl) (fun _ _ _ h => h) (Or.inl ⟨by rfl, ?_⟩) (by assumption) ?_
  rotate_left
  · (intro wq hSw; (try dsimp only at hSw); go_simp; try with_reducible rfl)
  try simp only [Act.put, List.getElem_toArray, List.getElem_cons_succ, List.getElem_cons_zero, List.setIfInBounds_toArray, List.set_cons_zero, List.set_cons_succ]
  refine wpAnyH_take (i := 62) (v := ?_) rfl (by kernel_rfl) (by kernel_rfl) (by kernel_rfl) (fun _ _ _ h => h) (Or.inl ⟨by rfl, ?_⟩) (by assumption) ?_
  rotate_left
  · (intro wq hSw; (try dsimp only at hSw); go_simp; try with_reducible rfl)
  try simp only [Act.put, List.getElem_toArray, List.getElem_cons_succ, List.getElem_cons_zero, List.setIfInBounds_toArray, List.set_cons_zero, List.set_cons_succ]
  refine wpAnyH_take (i := 63) (v := ?_) rfl (by kernel_rfl) (by kernel_rfl) (by kernel_rfl) (fun _ _ _ h => h) (Or.inl ⟨by rfl, ?_⟩) (by assumption) ?_
  rotate_left
  · (intro wq hSw; (try dsimp only at hSw); go_simp; try with_reducible rfl)
  try simp only [Act.put, List.getElem_toArray, List.getElem_cons_succ, List.getElem_cons_zero, List.setIfInBounds_toArray, List.set_cons_zero, List.set_cons_succ]
  refine wpAnyH_take (i := 64) (v := ?_) rfl (by kernel_rfl) (by kernel_rfl) (by kernel_rfl) (fun _ _ _ h => h) (Or.inl ⟨by rfl, ?_⟩) (by assumption) ?_
  rotate_left
  · (intro wq hSw; (try dsimp only at hSw); go_simp; try with_reducible rfl)
  try simp only [Act.put, List.getElem_toArray, List.getElem_cons_succ, List.getElem_cons_zero, List.setIfInBounds_toArray, List.set_cons_zero, List.set_cons_succ]
  refine wpAnyH_take (i := 66) (v := (.agg #[.slice (some ⟨g2, 0, none⟩) 1 c2, .bool false])) rfl (by kernel_rfl) (by kernel_rfl) (by kernel_rfl) (fun _ _ _ h => h) (yieldsIf_load_mid (by rfl) 35 _ rfl b2 0 rfl (linL (some ⟨g2, 0, none⟩) 1 c2 false) _ (fun _ h => h.o2.li.range) Tryd.underlying35 rfl (by kernel_rfl)) (by assumption) ?_
  try simp only [Act.put, List.getElem_toArray, List.getElem_cons_succ, List.getElem_cons_zero, List.setIfInBounds_toArray, List.set_cons_zero, List.set_cons_succ]
  refine wpAnyH_take (i := 67) (v := (.agg #[.slice (some ⟨g1, 0, none⟩) 1 c1, .bool false])) rfl (by kernel_rfl) (by kernel_rfl) (by kernel_rfl) (fun _ _ _ h => h) (yieldsIf_load_mid (by rfl) 35 _ rfl b1 0 rfl (linL (some ⟨g1, 0, none⟩) 1 c1 false) _ (fun _ h => h.o1.li.range) Tryd.underlying35 rfl (by kernel_rfl)) (by assumption) ?_
  try simp only [Act.put, List.getElem_toArray, List.getElem_cons_succ, List.getElem_cons_zero, List.setIfInBounds_toArray, List.set_cons_zero, List.set_cons_succ]
  refine' shareS2 (F := (fun v0 v1 W => (Kn7 ok W b1 g1 c1 b2 g2 c2 b3 g3 c3) ∧ PN ok W b s5 ∧ KO ok w7 W ∧ (∃ vs, LnsR W (some ⟨v0, 0, none⟩) 2 vs s5.ls) ∧ Rd W (some ⟨v1, 0, none⟩) 2 2 (rowsV lnV [⟨some ⟨g2, 0, none⟩, 1, c2, false⟩, ⟨some ⟨g1, 0, none⟩, 1, c1, false⟩]))) (fun H => ?kS) ?hS
  case kS =>
    refine wpAnyH_ready (rs := [65, 68]) (by kernel_rfl) (by simp) ?_
    refine AllReadyH.cons rfl (fun K hK => ?_) (AllReadyH.cons rfl (fun K hK => ?_) AllReadyH.nil)
    · go_simp
      refine (lines_n (by first | exact hp.keep hkM | exact hp) 2 rfl).mono ?_; rintro e wL ⟨gL, vsL, rfl, hfr, hkL⟩; have hKO : KO ok _ wL := KO.of hkL
      try go_wp2_with fail
      refine hK.out _ _ ?_ (fun hHeld => ?_)
      · (try dsimp only); (first | exact hHeld.kept hKO | exact hN.kept (KO.of (Kept.refl [] w7).drew))
      clear hK K
      try simp only [Act.put, List.getElem_toArray, List.getElem_cons_succ, List.getElem_cons_zero, List.setIfInBounds_toArray, List.set_cons_zero, List.set_cons_succ]
      refine wpAnyH_ready (rs := [68]) (by kernel_rfl) (by simp) ?_
      refine AllReadyH.cons rfl (fun K hK => ?_) AllReadyH.nil
      rw [if_pos (by rfl)]
      refine wp_bsLn 2 _ rfl [⟨some ⟨g2, 0, none⟩, 1, c2, false⟩, ⟨some ⟨g1, 0, none⟩, 1, c1, false⟩] rfl (by decide) (by decide) (by kernel_rfl) ?_; intro gM wM hgM hrM hkM; have hKO : KO ok _ wM := KO.of hkM
      refine hK.out _ _ ?_ (fun hHeld => ?_)
      · (try dsimp only); (first | exact hHeld.kept hKO | exact hN.kept (KO.of (Kept.refl [] w7).drew))
      clear hK K
      try simp only [Act.put, List.getElem_toArray, List.getElem_cons_succ, List.getElem_cons_zero, List.setIfInBounds_toArray, List.set_cons_zero, List.set_cons_succ]
      first | exact H gL gM wM ⟨hHeld, (hp.keep hkL).keep hkM, (hT.trans (.of hkL)).trans (.of hkM), ⟨vsL, LnsR.kept ⟨hfr.mid.rd, hfr.lns⟩ hkM (by simp) (by simp)⟩, hrM⟩ | exact H gL gM wL ⟨hHeld, (hp.keep hkM).keep hkL, (hT.trans (.of hkM)).trans (.of hkL), ⟨vsL, ⟨hfr.mid.rd, hfr.lns⟩⟩, hrM.kept hkL (by simp)⟩
    · rw [if_pos (by rfl)]
      refine wp_bsLn 2 _ rfl [⟨some ⟨g2, 0, none⟩, 1, c2, false⟩, ⟨some ⟨g1, 0, none⟩, 1, c1, false⟩] rfl (by decide) (by decide) (by kernel_rfl) ?_; intro gM wM hgM hrM hkM; have hKO : KO ok _ wM := KO.of hkM
      refine hK.out _ _ ?_ (fun hHeld => ?_)
      · (try dsimp only); (first | exact hHeld.kept hKO | exact hN.kept (KO.of (Kept.refl [] w7).drew))
      clear hK K
      try simp only [Act.put, List.getElem_toArray, List.getElem_cons_succ, List.getElem_cons_zero, List.setIfInBounds_toArray, List.set_cons_zero, List.set_cons_succ]
      refine wpAnyH_ready (rs := [65]) (by kernel_rfl) (by simp) ?_
      refine AllReadyH.cons rfl (fun K hK => ?_) AllReadyH.nil
      go_simp
      refine (lines_n (by first | exact hp.keep hkM | exact hp) 2 rfl).mono ?_; rintro e wL ⟨gL, vsL, rfl, hfr, hkL⟩; have hKO : KO ok _ wL := KO.of hkL
      try go_wp2_with fail
      refine hK.out _ _ ?_ (fun hHeld => ?_)
      · (try dsimp only); (first | exact hHeld.kept hKO | exact hN.kept (KO.of (Kept.refl [] w7).drew))
      clear hK K
      try simp only [Act.put, List.getElem_toArray, List.getElem_cons_succ, List.getElem_cons_zero, List.setIfInBounds_toArray, List.set_cons_zero, List.set_cons_succ]
      first | exact H gL gM wM ⟨hHeld, (hp.keep hkL).keep hkM, (hT.trans (.of hkL)).trans (.of hkM), ⟨vsL, LnsR.kept ⟨hfr.mid.rd, hfr.lns⟩ hkM (by simp) (by simp)⟩, hrM⟩ | exact H gL gM wL ⟨hHeld, (hp.keep hkM).keep hkL, (hT.trans (.of hkM)).trans (.of hkL), ⟨vsL, ⟨hfr.mid.rd, hfr.lns⟩⟩, hrM.kept hkL (by simp)⟩
  case' hS =>
    intro gL gM wn hF
    have hHeld := hF.1
    have hp := hF.2.1
    have hT := hF.2.2.1
    obtain ⟨vsL, hL⟩ := hF.2.2.2.1
    have hrM := hF.2.2.2.2
    clear hF
  refine wpAnyH_ready (rs := [69]) (by kernel_rfl) (by simp) ?_
  refine AllReadyH.cons rfl (fun K hK => ?_) AllReadyH.nil
  go_simp
  refine (all_t _ 2 2 vsL _ _ 2 _ _ hL (two_lns hHeld.o2 hHeld.o1 hrM) (by decide +kernel) (by decide)).mono ?_; rintro e wn ⟨rfl, hkk⟩; have hp := hp.keep hkk; have hKO := KO.of (ok := ok) hkk; have hT := hT.trans hKO
  try go_wp2_with fail
  refine hK.out _ _ ?_ (fun hHeld => ?_)
  · (try dsimp only); (first | exact hHeld.kept hKO | exact hN.kept (KO.of (Kept.refl [] w7).drew))
  clear hK K
  try simp only [Act.put, List.getElem_toArray, List.getElem_cons_succ, List.getElem_cons_zero, List.setIfInBounds_toArray, List.set_cons_zero, List.set_cons_succ]
  refine wpAnyH_take (i := 70) (v := ?_) rfl (by kernel_rfl) (by kernel_rfl) (by kernel_rfl) (fun _ _ _ h => h) (Or.inl ⟨by rfl, ?_⟩) (by assumption) ?_
  rotate_left
  · (intro wq hSw; (try dsimp only at hSw); go_simp; try with_reducible rfl)
  try simp only [Act.put, List.getElem_toArray, List.getElem_cons_succ, List.getElem_cons_zero, List.setIfInBounds_toArray, List.set_cons_zero, List.set_cons_succ]
  refine wpAnyH_take (i := 71) (v := ?_) rfl (by kernel_rfl) (by kernel_rfl) (by kernel_rfl) (fun _ _ _ h => h) (Or.inl ⟨by rfl, ?_⟩) (by assumption) ?_
  rotate_left
  · (intro wq hSw; (try dsimp only at hSw); go_simp; try with_reducible rfl)
  try simp only [Act.put, List.getElem_toArray, List.getElem_cons_succ, List.getElem_cons_zero, List.setIfInBounds_toArray, List.set_cons_zero, List.set_cons_succ]
  refine wpAnyH_done (by kernel_rfl) ?_ _
  obtain ⟨w8, rfl⟩ : ∃ x : World, x = wn := ⟨_, rfl⟩
  have hN8 := hide hHeld
  have hp8 := hide hp
  have hT8 := hide hT
  have hs8 := hide hT.size
  clear hHeld hp hT hKO hN hL hrM
  have hzb : Hid (LinIn ((w8.alloc (.cells #[.int .i32 0, .int .i32 0, .int .i32 0, .int .i32 0, .int .i64 0, .int .i64 0, .int .u8 0, .int .u8 0, .int .u8 0, .int .u8 0, .int .i64 0, .int .u8 0, .int .u8 0, .int .u8 0, .int .u8 0, .int .u8 0] 71)).alloc (.cells #[.slice none 0 0, .bool false] 35)) (w8.heap.size + 1) none 0 0 false) := hide (heap_new_at (by simp))
  have hkb : Hid (Kept [] w8 ((w8.alloc (.cells #[.int .i32 0, .int .i32 0, .int .i32 0, .int .i32 0, .int .i64 0, .int .i64 0, .int .u8 0, .int .u8 0, .int .u8 0, .int .u8 0, .int .i64 0, .int .u8 0, .int .u8 0, .int .u8 0, .int .u8 0, .int .u8 0] 71)).alloc (.cells #[.slice none 0 0, .bool false] 35))) := hide (((Kept.refl [] w8).alloc _).alloc _)
  have hrb : Hid (Rd ((w8.alloc (.cells #[.int .i32 0, .int .i32 0, .int .i32 0, .int .i32 0, .int .i64 0, .int .i64 0, .int .u8 0, .int .u8 0, .int .u8 0, .int .u8 0, .int .i64 0, .int .u8 0, .int .u8 0, .int .u8 0, .int .u8 0, .int .u8 0] 71)).alloc (.cells #[.slice none 0 0, .bool false] 35)) (some ⟨w8.heap.size, 0, none⟩) 1 16 (cellsV [zeroK])) := hide (Rd.kept (Rd.blockC (heap_new_at (w := w8) (by simp)) rfl) ((Kept.refl [] _).alloc _) (by simp))
  go_upto_region 5 with fail
  go_upto_region 6 with (refine wpList_store_lin rfl rfl rfl (w8.heap.size + 1) rfl hzb.out (some ⟨w8.heap.size, 0, none⟩) 1 1 false rfl ?_; intro w9 hb9 j9)
  have hk89 : Kept [] w8 w9 := hkb.out.trans j9 (by simp)
  have hr9 := hrb.out.kept j9 (by simp [blk])
  have hlt9 := hb9.lt
  obtain ⟨ok2, hok2⟩ : ∃ o : Nat → Prop, o = fun y => ok y ∧ y ≠ w8.heap.size + 1 ∧ y ≠ w8.heap.size := ⟨_, rfl⟩
  have h2o : ∀ y, ok2 y → ok y := fun y hy => by rw [hok2] at hy; exact hy.1
  have hN9 := hN8.out.kept (KO.of hk89)
  have hN2 : Kn7 ok2 w9 b1 g1 c1 b2 g2 c2 b3 g3 c3 ∧ One ok2 w9 (w8.heap.size + 1) w8.heap.size 1 zeroK := ⟨⟨hN9.tb, fun h => hN9.t0 (h2o _ h), fun h => hN9.t1 (h2o _ h), ⟨hN9.o1.li, hN9.o1.rd, fun h => hN9.o1.nb (h2o _ h), fun h => hN9.o1.ng (h2o _ h), hN9.o1.c1, hN9.o1.c2⟩, ⟨hN9.o2.li, hN9.o2.rd, fun h => hN9.o2.nb (h2o _ h), fun h => hN9.o2.ng (h2o _ h), hN9.o2.c1, hN9.o2.c2⟩, ⟨hN9.o3.li, hN9.o3.rd, fun h => hN9.o3.nb (h2o _ h), fun h => hN9.o3.ng (h2o _ h), hN9.o3.c1, hN9.o3.c2⟩, fun y hy => by rw [hok2]; exact ⟨hN9.nw y hy, by omega, by omega⟩⟩, ⟨hb9, hr9, fun h => by rw [hok2] at h; exact h.2.1 rfl, fun h => by rw [hok2] at h; exact h.2.2 rfl, Nat.le_refl _, by decide⟩⟩
  have hp9 : PN ok2 w9 b s5 := (hp8.out.mono (fun y hy ho => by rw [hok2]; exact ⟨ho, by omega, by omega⟩)).keep hk89
  have hT9 := hide (hT8.out.trans (KO.of hk89))
  have hp := hp9.keep (Kept.refl [] w9).drew
  have hT := KO.of (ok := ok2) (Kept.refl [] w9).drew
  have h2o := hide h2o
  clear hzb hkb hrb hN8 hp8 hT8 hb9 hr9 hk89 j9 hlt9 hN9 hp9 hok2 hs8
  refine wp_region_held_drew (S := (fun w' => Kn7 ok2 w' b1 g1 c1 b2 g2 c2 b3 g3 c3 ∧ One ok2 w' (w8.heap.size + 1) w8.heap.size 1 zeroK)) (by kernel_rfl) ?_ (fun hHeld => ?_)
  · (try dsimp only); (first | exact ⟨hHeld.1.kept hKO, hHeld.2.kept hKO⟩ | exact ⟨hN2.1.kept (KO.of (Kept.refl [] w9).drew), hN2.2.kept (KO.of (Kept.refl [] w9).drew)⟩)
  refine wpAnyH_ready (rs := [0]) (by kernel_rfl) (by simp) ?_
  refine AllReadyH.cons rfl (fun K hK => ?_) AllReadyH.nil
  go_simp
  refine (none7_ask pageIs 0 (by decide) _).mono ?_; rintro e wn ⟨rfl, hkk⟩; have hp := hp.keep hkk; have hKO := KO.of (ok := ok2) hkk; have hT := hT.trans hKO
  try go_wp2_with fail
  refine hK.out _ _ ?_ (fun hHeld => ?_)
  · (try dsimp only); (first | exact ⟨hHeld.1.kept hKO, hHeld.2.kept hKO⟩ | exact ⟨hN2.1.kept (KO.of (Kept.refl [] w9).drew), hN2.2.kept (KO.of (Kept.refl [] w9).drew)⟩)
  clear hK K
  try simp only [Act.put, List.getElem_toArray, List.getElem_cons_succ, List.getElem_cons_zero, List.setIfInBounds_toArray, List.set_cons_zero, List.set_cons_succ]
  refine wpAnyH_take (i := 1) (v := ?_) rfl (by kernel_rfl) (by kernel_rfl) (by kernel_rfl) (fun _ _ _ h => h) (Or.inl ⟨by rfl, ?_⟩) (by assumption) ?_
  rotate_left
  · (intro wq hSw; (try dsimp only at hSw); go_simp; try with_reducible rfl)
  try simp only [Act.put, List.getElem_toArray, List.getElem_cons_succ, List.getElem_cons_zero, List.setIfInBounds_toArray, List.set_cons_zero, List.set_cons_succ]
  refine wpAnyH_take (i := 2) (v := ?_) rfl (by kernel_rfl) (by kernel_rfl) (by kernel_rfl) (fun _ _ _ h => h) (Or.inl ⟨by rfl, ?_⟩) (by assumption) ?_
  rotate_left
  · (intro wq hSw; (try dsimp only at hSw); go_simp; try with_reducible rfl)
  try simp only [Act.put, List.getElem_toArray, List.getElem_cons_succ, List.getElem_cons_zero, List.setIfInBounds_toArray, List.set_cons_zero, List.set_cons_succ]
  refine wpAnyH_ready (rs := [3]) (by kernel_rfl) (by simp) ?_
  refine AllReadyH.cons rfl (fun K hK => ?_) AllReadyH.nil
  go_simp
  refine (none7_ask pageIs 1025 (by decide) _).mono ?_; rintro e wn ⟨rfl, hkk⟩; have hp := hp.keep hkk; have hKO := KO.of (ok := ok2) hkk; have hT := hT.trans hKO
  try go_wp2_with fail
  refine hK.out _ _ ?_ (fun hHeld => ?_)
  · (try dsimp only); (first | exact ⟨hHeld.1.kept hKO, hHeld.2.kept hKO⟩ | exact ⟨hN2.1.kept (KO.of (Kept.refl [] w9).drew), hN2.2.kept (KO.of (Kept.refl [] w9).drew)⟩)
  clear hK K
  try simp only [Act.put, List.getElem_toArray, List.getElem_cons_succ, List.getElem_cons_zero, List.setIfInBounds_toArray, List.set_cons_zero, List.set_cons_succ]
  refine wpAnyH_take (i := 4) (v := ?_) rfl (by kernel_rfl) (by kernel_rfl) (by kernel_rfl) (fun _ _ _ h => h) (Or.inl ⟨by rfl, ?_⟩) (by assumption) ?_
  rotate_left
  · (intro wq hSw; (try dsimp only at hSw); go_simp; try with_reducible rfl)
  try simp only [Act.put, List.getElem_toArray, List.getElem_cons_succ, List.getElem_cons_zero, List.setIfInBounds_toArray, List.set_cons_zero, List.set_cons_succ]
  refine wpAnyH_take (i := 5) (v := ?_) rfl (by kernel_rfl) (by kernel_rfl) (by kernel_rfl) (fun _ _ _ h => h) (Or.inl ⟨by rfl, ?_⟩) (by assumption) ?_
  rotate_left
  · (intro wq hSw; (try dsimp only at hSw); go_simp; try with_reducible rfl)
  try simp only [Act.put, List.getElem_toArray, List.getElem_cons_succ, List.getElem_cons_zero, List.setIfInBounds_toArray, List.set_cons_zero, List.set_cons_succ]
  refine wpAnyH_take (i := 6) (v := ?_) rfl (by kernel_rfl) (by kernel_rfl) (by kernel_rfl) (fun _ _ _ h => h) (Or.inl ⟨by rfl, ?_⟩) (by assumption) ?_
  rotate_left
  · (intro wq hSw; (try dsimp only at hSw); go_simp; try with_reducible rfl)
  try simp only [Act.put, List.getElem_toArray, List.getElem_cons_succ, List.getElem_cons_zero, List.setIfInBounds_toArray, List.set_cons_zero, List.set_cons_succ]
  refine wpAnyH_take (i := 7) (v := ?_) rfl (by kernel_rfl) (by kernel_rfl) (by kernel_rfl) (fun _ _ _ h => h) (Or.inl ⟨by rfl, ?_⟩) (by assumption) ?_
  rotate_left
  · (intro wq hSw; (try dsimp only at hSw); go_simp; try with_reducible rfl)
  try simp only [Act.put, List.getElem_toArray, List.getElem_cons_succ, List.getElem_cons_zero, List.setIfInBounds_toArray, List.set_cons_zero, List.set_cons_succ]
  refine wpAnyH_take (i := 8) (v := ?_) rfl (by kernel_rfl) (by kernel_rfl) (by kernel_rfl) (fun _ _ _ h => h) (Or.inl ⟨by rfl, ?_⟩) (by assumption) ?_
  rotate_left
  · (intro wq hSw; (try dsimp only at hSw); go_simp; try with_reducible rfl)
  try simp only [Act.put, List.getElem_toArray, List.getElem_cons_succ, List.getElem_cons_zero, List.setIfInBounds_toArray, List.set_cons_zero, List.set_cons_succ]
  refine wpAnyH_ready (rs := [9]) (by kernel_rfl) (by simp) ?_
  refine AllReadyH.cons rfl (fun K hK => ?_) AllReadyH.nil
  go_simp
  refine (gets_n hp 2 none 0 0 false [] 3 true (Rd.nil _ _ _) (by decide +kernel)).mono ?_; rintro e wn ⟨rfl, hp, hKO⟩; have hT := hT.trans hKO
  try go_wp2_with fail
  refine hK.out _ _ ?_ (fun hHeld => ?_)
  · (try dsimp only); (first | exact ⟨hHeld.1.kept hKO, hHeld.2.kept hKO⟩ | exact ⟨hN2.1.kept (KO.of (Kept.refl [] w9).drew), hN2.2.kept (KO.of (Kept.refl [] w9).drew)⟩)
  clear hK K
  try simp only [Act.put, List.getElem_toArray, List.getElem_cons_succ, List.getElem_cons_zero, List.setIfInBounds_toArray, List.set_cons_zero, List.set_cons_succ]
  refine wpAnyH_take (i := 10) (v := ?_) rfl (by kernel_rfl) (by kernel_rfl) (by kernel_rfl) (fun _ _ _ h => h) (Or.inl ⟨by rfl, ?_⟩) (by assumption) ?_
  rotate_left
  · (intro wq hSw; (try dsimp only at hSw); go_simp; try with_reducible rfl)
  try simp only [Act.put, List.getElem_toArray, List.getElem_cons_succ, List.getElem_cons_zero, List.setIfInBounds_toArray, List.set_cons_zero, List.set_cons_succ]
  refine wpAnyH_take (i := 11) (v := ?_) rfl (by kernel_rfl) (by kernel_rfl) (by kernel_rfl) (fun _ _ _ h => h) (Or.inl ⟨by rfl, ?_⟩) (by assumption) ?_
  rotate_left
  · (intro wq hSw; (try dsimp only at hSw); go_simp; try with_reducible rfl)
  try simp only [Act.put, List.getElem_toArray, List.getElem_cons_succ, List.getElem_cons_zero, List.setIfInBounds_toArray, List.set_cons_zero, List.set_cons_succ]
  refine wpAnyH_take (i := 12) (v := ?_) rfl (by kernel_rfl) (by kernel_rfl) (by kernel_rfl) (fun _ _ _ h => h) (Or.inl ⟨by rfl, ?_⟩) (by assumption) ?_
  rotate_left
  · (intro wq hSw; (try dsimp only at hSw); go_simp; try with_reducible rfl)
  try simp only [Act.put, List.getElem_toArray, List.getElem_cons_succ, List.getElem_cons_zero, List.setIfInBounds_toArray, List.set_cons_zero, List.set_cons_succ]
  refine wpAnyH_take (i := 13) (v := ?_) rfl (by kernel_rfl) (by kernel_rfl) (by kernel_rfl) (fun _ _ _ h => h) (Or.inl ⟨by rfl, ?_⟩) (by assumption) ?_
  rotate_left
  · (intro wq hSw; (try dsimp only at hSw); go_simp; try with_reducible rfl)
  try simp only [Act.put, List.getElem_toArray, List.getElem_cons_succ, List.getElem_cons_zero, List.setIfInBounds_toArray, List.set_cons_zero, List.set_cons_succ]
  refine wpAnyH_take (i := 14) (v := ?_) rfl (by kernel_rfl) (by kernel_rfl) (by kernel_rfl) (fun _ _ _ h => h) (Or.inl ⟨by rfl, ?_⟩) (by assumption) ?_
  rotate_left
  · (intro wq hSw; (try dsimp only at hSw); go_simp; try with_reducible rfl)
  try simp only [Act.put, List.getElem_toArray, List.getElem_cons_succ, List.getElem_cons_zero, List.setIfInBounds_toArray, List.set_cons_zero, List.set_cons_succ]
  refine wpAnyH_ready (rs := [15]) (by kernel_rfl) (by simp) ?_
  refine AllReadyH.cons rfl (fun K hK => ?_) AllReadyH.nil
  go_simp
  refine (gets_n hp (-1) none 0 0 false [] 3 true (Rd.nil _ _ _) (by decide +kernel)).mono ?_; rintro e wn ⟨rfl, hp, hKO⟩; have hT := hT.trans hKO
  try go_wp2_with fail
  refine hK.out _ _ ?_ (fun hHeld => ?_)
  · (try dsimp only); (first | exact ⟨hHeld.1.kept hKO, hHeld.2.kept hKO⟩ | exact ⟨hN2.1.kept (KO.of (Kept.refl [] w9).drew), hN2.2.kept (KO.of (Kept.refl [] w9).drew)⟩)
  clear hK K
  try simp only [Act.put, List.getElem_toArray, List.getElem_cons_succ, List.getElem_cons_zero, List.setIfInBounds_toArray, List.set_cons_zero, List.set_cons_succ]
  refine wpAnyH_take (i := 16) (v := ?_) rfl (by kernel_rfl) (by kernel_rfl) (by kernel_rfl) (fun _ _ _ h => h) (Or.inl ⟨by rfl, ?_⟩) (by assumption) ?_
  rotate_left
  · (intro wq hSw; (try dsimp only at hSw); go_simp; try with_reducible rfl)
  try simp only [Act.put, List.getElem_toArray, List.getElem_cons_succ, List.getElem_cons_zero, List.setIfInBounds_toArray, List.set_cons_zero, List.set_cons_succ]
  refine wpAnyH_take (i := 17) (v := ?_) rfl (by kernel_rfl) (by kernel_rfl) (by kernel_rfl) (fun _ _ _ h => h) (Or.inl ⟨by rfl, ?_⟩) (by assumption) ?_
  rotate_left
  · (intro wq hSw; (try dsimp only at hSw); go_simp; try with_reducible rfl)
  try simp only [Act.put, List.getElem_toArray, List.getElem_cons_succ, List.getElem_cons_zero, List.setIfInBounds_toArray, List.set_cons_zero, List.set_cons_succ]
  refine wpAnyH_take (i := 18) (v := ?_) rfl (by kernel_rfl) (by kernel_rfl) (by kernel_rfl) (fun _ _ _ h => h) (Or.inl ⟨by rfl, ?_⟩) (by assumption) ?_
  rotate_left
  · (intro wq hSw; (try dsimp only at hSw); go_simp; try with_reducible rfl)
  try simp only [Act.put, List.getElem_toArray, List.getElem_cons_succ, List.getElem_cons_zero, List.setIfInBounds_toArray, List.set_cons_zero, List.set_cons_succ]
  refine wpAnyH_take (i := 19) (v := ?_) rfl (by kernel_rfl) (by kernel_rfl) (by kernel_rfl) (fun _ _ _ h => h) (Or.inl ⟨by rfl, ?_⟩) (by assumption) ?_
  rotate_left
  · (intro wq hSw; (try dsimp only at hSw); go_simp; try with_reducible rfl)
  try simp only [Act.put, List.getElem_toArray, List.getElem_cons_succ, List.getElem_cons_zero, List.setIfInBounds_toArray, List.set_cons_zero, List.set_cons_succ]
  refine wpAnyH_ready (rs := [20]) (by kernel_rfl) (by simp) ?_
  refine AllReadyH.cons rfl (fun K hK => ?_) AllReadyH.nil
  go_simp
  refine (drop_n hp hHeld.1.nw 3 s5 3 (by decide +kernel)).mono ?_; rintro e wn ⟨rfl, hp, hKO⟩; have hT := hT.trans hKO
  try go_wp2_with fail
  refine hK.out _ _ ?_ (fun hHeld => ?_)
  · (try dsimp only); (first | exact ⟨hHeld.1.kept hKO, hHeld.2.kept hKO⟩ | exact ⟨hN2.1.kept (KO.of (Kept.refl [] w9).drew), hN2.2.kept (KO.of (Kept.refl [] w9).drew)⟩)
  clear hK K
  try simp only [Act.put, List.getElem_toArray, List.getElem_cons_succ, List.getElem_cons_zero, List.setIfInBounds_toArray, List.set_cons_zero, List.set_cons_succ]
  refine wpAnyH_take (i := 21) (v := ?_) rfl (by kernel_rfl) (by kernel_rfl) (by kernel_rfl) (fun _ _ _ h => h) (Or.inl ⟨by rfl, ?_⟩) (by assumption) ?_
  rotate_left
  · (intro wq hSw; (try dsimp only at hSw); go_simp; try with_reducible rfl)
  try simp only [Act.put, List.getElem_toArray, List.getElem_cons_succ, List.getElem_cons_zero, List.setIfInBounds_toArray, List.set_cons_zero, List.set_cons_succ]
  refine wpAnyH_take (i := 22) (v := ?_) rfl (by kernel_rfl) (by kernel_rfl) (by kernel_rfl) (fun _ _ _ h => h) (Or.inl ⟨by rfl, ?_⟩) (by assumption) ?_
  rotate_left
  · (intro wq hSw; (try dsimp only at hSw); go_simp; try with_reducible rfl)
  try simp only [Act.put, List.getElem_toArray, List.getElem_cons_succ, List.getElem_cons_zero, List.setIfInBounds_toArray, List.set_cons_zero, List.set_cons_succ]
  refine wpAnyH_take (i := 23) (v := ?_) rfl (by kernel_rfl) (by kernel_rfl) (by kernel_rfl) (fun _ _ _ h => h) (Or.inl ⟨by rfl, ?_⟩) (by assumption) ?_
  rotate_left
  · (intro wq hSw; (try dsimp only at hSw); go_simp; try with_reducible rfl)
  try simp only [Act.put, List.getElem_toArray, List.getElem_cons_succ, List.getElem_cons_zero, List.setIfInBounds_toArray, List.set_cons_zero, List.set_cons_succ]
  refine wpAnyH_take (i := 24) (v := ?_) rfl (by kernel_rfl) (by kernel_rfl) (by kernel_rfl) (fun _ _ _ h => h) (Or.inl ⟨by rfl, ?_⟩) (by assumption) ?_
  rotate_left
  · (intro wq hSw; (try dsimp only at hSw); go_simp; try with_reducible rfl)
  try simp only [Act.put, List.getElem_toArray, List.getElem_cons_succ, List.getElem_cons_zero, List.setIfInBounds_toArray, List.set_cons_zero, List.set_cons_succ]
  refine wpAnyH_take (i := 25) (v := (.agg #[.slice (some ⟨g3, 0, none⟩) 1 c3, .bool false])) rfl (by kernel_rfl) (by kernel_rfl) (by kernel_rfl) (fun _ _ _ h => h) (yieldsIf_load_mid (by rfl) 35 _ rfl b3 0 rfl (linL (some ⟨g3, 0, none⟩) 1 c3 false) _ (fun _ h => h.1.o3.li.range) Tryd.underlying35 rfl (by kernel_rfl)) (by assumption) ?_
  try simp only [Act.put, List.getElem_toArray, List.getElem_cons_succ, List.getElem_cons_zero, List.setIfInBounds_toArray, List.set_cons_zero, List.set_cons_succ]
  refine wpAnyH_ready (rs := [26]) (by kernel_rfl) (by simp) ?_
  refine AllReadyH.cons rfl (fun K hK => ?_) AllReadyH.nil
  go_simp
  refine (set_n hp hHeld.1.nw hHeld.1.tb 1 (some ⟨g3, 0, none⟩) 1 c3 kZ hHeld.1.o3.rd s4 0 (by decide +kernel)).mono ?_; rintro e wn ⟨rfl, hp, hKO⟩; have hT := hT.trans hKO
  try go_wp2_with fail
  refine hK.out _ _ ?_ (fun hHeld => ?_)
  · (try dsimp only); (first | exact ⟨hHeld.1.kept hKO, hHeld.2.kept hKO⟩ | exact ⟨hN2.1.kept (KO.of (Kept.refl [] w9).drew), hN2.2.kept (KO.of (Kept.refl [] w9).drew)⟩)
  clear hK K
  try simp only [Act.put, List.getElem_toArray, List.getElem_cons_succ, List.getElem_cons_zero, List.setIfInBounds_toArray, List.set_cons_zero, List.set_cons_succ]
  refine wpAnyH_take (i := 27) (v := ?_) rfl (by kernel_rfl) (by kernel_rfl) (by kernel_rfl) (fun _ _ _ h => h) (Or.inl ⟨by rfl, ?_⟩) (by assumption) ?_
  rotate_left
  · (intro wq hSw; (try dsimp only at hSw); go_simp; try with_reducible rfl)
  try simp only [Act.put, List.getElem_toArray, List.getElem_cons_succ, List.getElem_cons_zero, List.setIfInBounds_toArray, List.set_cons_zero, List.set_cons_succ]
  refine wpAnyH_take (i := 28) (v := ?_) rfl (by kernel_rfl) (by kernel_rfl) (by kernel_rfl) (fun _ _ _ h => h) (Or.inl ⟨by rfl, ?_⟩) (by assumption) ?_
  rotate_left
  · (intro wq hSw; (try dsimp only at hSw); go_simp; try with_reducible rfl)
  try simp only [Act.put, List.getElem_toArray, List.getElem_cons_succ, List.getElem_cons_zero, List.setIfInBounds_toArray, List.set_cons_zero, List.set_cons_succ]
  refine wpAnyH_take (i := 29) (v := ?_) rfl (by kernel_rfl) (by kernel_rfl) (by kernel_rfl) (fun _ _ _ h => h) (Or.inl ⟨by rfl, ?_⟩) (by assumption) ?_
  rotate_left
  · (intro wq hSw; (try dsimp only at hSw); go_simp; try with_reducible rfl)
  try simp only [Act.put, List.getElem_toArray, List.getElem_cons_succ, List.getElem_cons_zero, List.setIfInBounds_toArray, List.set_cons_zero, List.set_cons_succ]
  refine wpAnyH_take (i := 30) (v := ?_) rfl (by kernel_rfl) (by kernel_rfl) (by kernel_rfl) (fun _ _ _ h => h) (Or.inl ⟨by rfl, ?_⟩) (by assumption) ?_
  rotate_left
  · (intro wq hSw; (try dsimp only at hSw); go_simp; try with_reducible rfl)
  try simp only [Act.put, List.getElem_toArray, List.getElem_cons_succ, List.getElem_cons_zero, List.setIfInBounds_toArray, List.set_cons_zero, List.set_cons_succ]
  refine wpAnyH_take (i := 32) (v := (.agg #[.slice (some ⟨g2, 0, none⟩) 1 c2, .bool false])) rfl (by kernel_rfl) (by kernel_rfl) (by kernel_rfl) (fun _ _ _ h => h) (yieldsIf_load_mid (by rfl) 35 _ rfl b2 0 rfl (linL (some ⟨g2, 0, none⟩) 1 c2 false) _ (fun _ h => h.1.o2.li.range) Tryd.underlying35 rfl (by kernel_rfl)) (by assumption) ?_
  try simp only [Act.put, List.getElem_toArray, List.getElem_cons_succ, List.getElem_cons_zero, List.setIfInBounds_toArray, List.set_cons_zero, List.set_cons_succ]
  refine wpAnyH_take (i := 33) (v := (.agg #[.slice (some ⟨g3, 0, none⟩) 1 c3, .bool false])) rfl (by kernel_rfl) (by kernel_rfl) (by kernel_rfl) (fun _ _ _ h => h) (yieldsIf_load_mid (by rfl) 35 _ rfl b3 0 rfl (linL (some ⟨g3, 0, none⟩) 1 c3 false) _ (fun _ h => h.1.o3.li.range) Tryd.underlying35 rfl (by kernel_rfl)) (by assumption) ?_
  try simp only [Act.put, List.getElem_toArray, List.getElem_cons_succ, List.getElem_cons_zero, List.setIfInBounds_toArray, List.set_cons_zero, List.set_cons_succ]
  refine' shareS2 (F := (fun v0 v1 W => (Kn7 ok2 W b1 g1 c1 b2 g2 c2 b3 g3 c3 ∧ One ok2 W (w8.heap.size + 1) w8.heap.size 1 zeroK) ∧ PN ok2 W b s4 ∧ KO ok2 w9 W ∧ (∃ vs, LnsR W (some ⟨v0, 0, none⟩) 2 vs s4.ls) ∧ Rd W (some ⟨v1, 0, none⟩) 2 2 (rowsV lnV [⟨some ⟨g2, 0, none⟩, 1, c2, false⟩, ⟨some ⟨g3, 0, none⟩, 1, c3, false⟩]))) (fun H => ?kU) ?hU
  case kU =>
    refine wpAnyH_ready (rs := [31, 34]) (by kernel_rfl) (by simp) ?_
    refine AllReadyH.cons rfl (fun K hK => ?_) (AllReadyH.cons rfl (fun K hK => ?_) AllReadyH.nil)
    · go_simp
      refine (lines_n (by first | exact hp.keep hkM | exact hp) 2 rfl).mono ?_; rintro e wL ⟨gL, vsL, rfl, hfr, hkL⟩; have hKO : KO ok2 _ wL := KO.of hkL
      try go_wp2_with fail
      refine hK.out _ _ ?_ (fun hHeld => ?_)
      · (try dsimp only); (first | exact ⟨hHeld.1.kept hKO, hHeld.2.kept hKO⟩ | exact ⟨hN2.1.kept (KO.of (Kept.refl [] w9).drew), hN2.2.kept (KO.of (Kept.refl [] w9).drew)⟩)
      clear hK K
      try simp only [Act.put, List.getElem_toArray, List.getElem_cons_succ, List.getElem_cons_zero, List.setIfInBounds_toArray, List.set_cons_zero, List.set_cons_succ]
      refine wpAnyH_ready (rs := [34]) (by kernel_rfl) (by simp) ?_
      refine AllReadyH.cons rfl (fun K hK => ?_) AllReadyH.nil
      rw [if_pos (by rfl)]
      refine wp_bsLn 2 _ rfl [⟨some ⟨g2, 0, none⟩, 1, c2, false⟩, ⟨some ⟨g3, 0, none⟩, 1, c3, false⟩] rfl (by decide) (by decide) (by kernel_rfl) ?_; intro gM wM hgM hrM hkM; have hKO : KO ok2 _ wM := KO.of hkM
      refine hK.out _ _ ?_ (fun hHeld => ?_)
      · (try dsimp only); (first | exact ⟨hHeld.1.kept hKO, hHeld.2.kept hKO⟩ | exact ⟨hN2.1.kept (KO.of (Kept.refl [] w9).drew), hN2.2.kept (KO.of (Kept.refl [] w9).drew)⟩)
      clear hK K
      try simp only [Act.put, List.getElem_toArray, List.getElem_cons_succ, List.getElem_cons_zero, List.setIfInBounds_toArray, List.set_cons_zero, List.set_cons_succ]
      first | exact H gL gM wM ⟨hHeld, (hp.keep hkL).keep hkM, (hT.trans (.of hkL)).trans (.of hkM), ⟨vsL, LnsR.kept ⟨hfr.mid.rd, hfr.lns⟩ hkM (by simp) (by simp)⟩, hrM⟩ | exact H gL gM wL ⟨hHeld, (hp.keep hkM).keep hkL, (hT.trans (.of hkM)).trans (.of hkL), ⟨vsL, ⟨hfr.mid.rd, hfr.lns⟩⟩, hrM.kept hkL (by simp)⟩
    · rw [if_pos (by rfl)]
      refine wp_bsLn 2 _ rfl [⟨some ⟨g2, 0, none⟩, 1, c2, false⟩, ⟨some ⟨g3, 0, none⟩, 1, c3, false⟩] rfl (by decide) (by decide) (by kernel_rfl) ?_; intro gM wM hgM hrM hkM; have hKO : KO ok2 _ wM := KO.of hkM
      refine hK.out _ _ ?_ (fun hHeld => ?_)
      · (try dsimp only); (first | exact ⟨hHeld.1.kept hKO, hHeld.2.kept hKO⟩ | exact ⟨hN2.1.kept (KO.of (Kept.refl [] w9).drew), hN2.2.kept (KO.of (Kept.refl [] w9).drew)⟩)
      clear hK K
      try simp only [Act.put, List.getElem_toArray, List.getElem_cons_succ, List.getElem_cons_zero, List.setIfInBounds_toArray, List.set_cons_zero, List.set_cons_succ]
      refine wpAnyH_ready (rs := [31]) (by kernel_rfl) (by simp) ?_
      refine AllReadyH.cons rfl (fun K hK => ?_) AllReadyH.nil
      go_simp
      refine (lines_n (by first | exact hp.keep hkM | exact hp) 2 rfl).mono ?_; rintro e wL ⟨gL, vsL, rfl, hfr, hkL⟩; have hKO : KO ok2 _ wL := KO.of hkL
      try go_wp2_with fail
      refine hK.out _ _ ?_ (fun hHeld => ?_)
      · (try dsimp only); (first | exact ⟨hHeld.1.kept hKO, hHeld.2.kept hKO⟩ | exact ⟨hN2.1.kept (KO.of (Kept.refl [] w9).drew), hN2.2.kept (KO.of (Kept.refl [] w9).drew)⟩)
      clear hK K
      try simp only [Act.put, List.getElem_toArray, List.getElem_cons_succ, List.getElem_cons_zero, List.setIfInBounds_toArray, List.set_cons_zero, List.set_cons_succ]
      first | exact H gL gM wM ⟨hHeld, (hp.keep hkL).keep hkM, (hT.trans (.of hkL)).trans (.of hkM), ⟨vsL, LnsR.kept ⟨hfr.mid.rd, hfr.lns⟩ hkM (by simp) (by simp)⟩, hrM⟩ | exact H gL gM wL ⟨hHeld, (hp.keep hkM).keep hkL, (hT.trans (.of hkM)).trans (.of hkL), ⟨vsL, ⟨hfr.mid.rd, hfr.lns⟩⟩, hrM.kept hkL (by simp)⟩
  case' hU =>
    intro gL gM wn hF
    have hHeld := hF.1
    have hp := hF.2.1
    have hT := hF.2.2.1
    obtain ⟨vsL, hL⟩ := hF.2.2.2.1
    have hrM := hF.2.2.2.2
    clear hF
  refine wpAnyH_ready (rs := [35]) (by kernel_rfl) (by simp) ?_
  refine AllReadyH.cons rfl (fun K hK => ?_) AllReadyH.nil
  go_simp
  refine (all_t _ 2 2 vsL _ _ 2 _ _ hL (two_lns hHeld.1.o2 hHeld.1.o3 hrM) (by decide +kernel) (by decide)).mono ?_; rintro e wn ⟨rfl, hkk⟩; have hp := hp.keep hkk; have hKO := KO.of (ok := ok2) hkk; have hT := hT.trans hKO
  try go_wp2_with fail
  refine hK.out _ _ ?_ (fun hHeld => ?_)
  · (try dsimp only); (first | exact ⟨hHeld.1.kept hKO, hHeld.2.kept hKO⟩ | exact ⟨hN2.1.kept (KO.of (Kept.refl [] w9).drew), hN2.2.kept (KO.of (Kept.refl [] w9).drew)⟩)
  clear hK K
  try simp only [Act.put, List.getElem_toArray, List.getElem_cons_succ, List.getElem_cons_zero, List.setIfInBounds_toArray, List.set_cons_zero, List.set_cons_succ]
  refine wpAnyH_take (i := 36) (v := ?_) rfl (by kernel_rfl) (by kernel_rfl) (by kernel_rfl) (fun _ _ _ h => h) (Or.inl ⟨by rfl, ?_⟩) (by assumption) ?_
  rotate_left
  · (intro wq hSw; (try dsimp only at hSw); go_simp; try with_reducible rfl)
  try simp only [Act.put, List.getElem_toArray, List.getElem_cons_succ, List.getElem_cons_zero, List.setIfInBounds_toArray, List.set_cons_zero, List.set_cons_succ]
  refine wpAnyH_take (i := 37) (v := ?_) rfl (by kernel_rfl) (by kernel_rfl) (by kernel_rfl) (fun _ _ _ h => h) (Or.inl ⟨by rfl, ?_⟩) (by assumption) ?_
  rotate_left
  · (intro wq hSw; (try dsimp only at hSw); go_simp; try with_reducible rfl)
  try simp only [Act.put, List.getElem_toArray, List.getElem_cons_succ, List.getElem_cons_zero, List.setIfInBounds_toArray, List.set_cons_zero, List.set_cons_succ]
  refine wpAnyH_take (i := 38) (v := ?_) rfl (by kernel_rfl) (by kernel_rfl) (by kernel_rfl) (fun _ _ _ h => h) (Or.inl ⟨by rfl, ?_⟩) (by assumption) ?_
  rotate_left
  · (intro wq hSw; (try dsimp only at hSw); go_simp; try with_reducible rfl)
  try simp only [Act.put, List.getElem_toArray, List.getElem_cons_succ, List.getElem_cons_zero, List.setIfInBounds_toArray, List.set_cons_zero, List.set_cons_succ]
  refine wpAnyH_take (i := 39) (v := ?_) rfl (by kernel_rfl) (by kernel_rfl) (by kernel_rfl) (fun _ _ _ h => h) (Or.inl ⟨by rfl, ?_⟩) (by assumption) ?_
  rotate_left
  · (intro wq hSw; (try dsimp only at hSw); go_simp; try with_reducible rfl)
  try simp only [Act.put, List.getElem_toArray, List.getElem_cons_succ, List.getElem_cons_zero, List.setIfInBounds_toArray, List.set_cons_zero, List.set_cons_succ]
  refine wpAnyH_take (i := 40) (v := (.agg #[.slice (some ⟨w8.heap.size, 0, none⟩) 1 1, .bool false])) rfl (by kernel_rfl) (by kernel_rfl) (by kernel_rfl) (fun _ _ _ h => h) (yieldsIf_load_mid (by rfl) 35 _ rfl (w8.heap.size + 1) 0 rfl (linL (some ⟨w8.heap.size, 0, none⟩) 1 1 false) _ (fun _ h => h.2.li.range) Tryd.underlying35 rfl (by kernel_rfl)) (by assumption) ?_
  try simp only [Act.put, List.getElem_toArray, List.getElem_cons_succ, List.getElem_cons_zero, List.setIfInBounds_toArray, List.set_cons_zero, List.set_cons_succ]
  refine wpAnyH_ready (rs := [41]) (by kernel_rfl) (by simp) ?_
  refine AllReadyH.cons rfl (fun K hK => ?_) AllReadyH.nil
  go_simp
  refine (push_n hp hHeld.1.nw hHeld.1.tb (some ⟨w8.heap.size, 0, none⟩) 1 1 kB hHeld.2.rd s4 2 (by decide +kernel)).mono ?_; rintro e wn ⟨rfl, hp, hKO⟩; have hT := hT.trans hKO
  try go_wp2_with fail
  refine hK.out _ _ ?_ (fun hHeld => ?_)
  · (try dsimp only); (first | exact ⟨hHeld.1.kept hKO, hHeld.2.kept hKO⟩ | exact ⟨hN2.1.kept (KO.of (Kept.refl [] w9).drew), hN2.2.kept (KO.of (Kept.refl [] w9).drew)⟩)
  clear hK K
  try simp only [Act.put, List.getElem_toArray, List.getElem_cons_succ, List.getElem_cons_zero, List.setIfInBounds_toArray, List.set_cons_zero, List.set_cons_succ]
  refine wpAnyH_take (i := 42) (v := ?_) rfl (by kernel_rfl) (by kernel_rfl) (by kernel_rfl) (fun _ _ _ h => h) (Or.inl ⟨by rfl, ?_⟩) (by assumption) ?_
  rotate_left
  · (intro wq hSw; (try dsimp only at hSw); go_simp; try with_reducible rfl)
  try simp only [Act.put, List.getElem_toArray, List.getElem_cons_succ, List.getElem_cons_zero, List.setIfInBounds_toArray, List.set_cons_zero, List.set_cons_succ]
  refine wpAnyH_take (i := 43) (v := ?_) rfl (by kernel_rfl) (by kernel_rfl) (by kernel_rfl) (fun _ _ _ h => h) (Or.inl ⟨by rfl, ?_⟩) (by assumption) ?_
  rotate_left
  · (intro wq hSw; (try dsimp only at hSw); go_simp; try with_reducible rfl)
  try simp only [Act.put, List.getElem_toArray, List.getElem_cons_succ, List.getElem_cons_zero, List.setIfInBounds_toArray, List.set_cons_zero, List.set_cons_succ]
  refine wpAnyH_done (by kernel_rfl) ?_ _
  have hHeld := hHeld
  go_wp2_with fail
  refine (drop_n hp hHeld.1.nw 2 s6 0 (by decide +kernel)).mono ?_
  rintro e wn ⟨rfl, hp, hKO⟩
  have hT := hT.trans hKO
  have hHeld := And.intro (hHeld.1.kept hKO) (hHeld.2.kept hKO)
  go_wp2_with fail
  refine (len_n hp 0 (by decide +kernel)).mono ?_
  rintro e wn ⟨rfl, hp, hKO⟩
  have hT := hT.trans hKO
  have hHeld := And.intro (hHeld.1.kept hKO) (hHeld.2.kept hKO)
  go_wp2_with fail
  refine (room_n hp 0 (by decide +kernel)).mono ?_
  rintro e wn ⟨rfl, hp, hKO⟩
  have hT := hT.trans hKO
  have hHeld := And.intro (hHeld.1.kept hKO) (hHeld.2.kept hKO)
  go_wp2_with fail
  refine (pops_n hp hHeld.1.nw none 0 0 false [] 9 true (Rd.nil _ _ _) (fun y hy => by simp [blk] at hy) (by decide +kernel) s6 (by decide +kernel)).mono ?_
  rintro e wn ⟨rfl, hp, hKO⟩
  have hT := hT.trans hKO
  go_wp2_with fail
  refine (cap_n hp 3 (by decide +kernel)).mono ?_
  rintro e wn ⟨rfl, hp, hKO⟩
  have hT := hT.trans hKO
  go_wp2_with fail
  go_ret
  obtain ⟨S, k1, k2⟩ := hT
  have hT := hT9.out.trans ⟨S, k1, fun y hy => h2o.out y (k2 y hy)⟩
  exact ⟨rfl, hT.none hw7.out (fun y hy => Nat.le_trans hs67.out (hokw.out y hy))⟩
end Go.Proofs.YtpeedjknjjbabaaDoor
