/- Layer 9: the examples of the chapter (by genplkn.py). -/
import Derived.Test.YtnkddhmhjnhgcaaDoorPlAsk
namespace Go.Proofs.YtnkddhmhjnhgcaaDoor
open Go.RowKit Go.Sort
set_option linter.unusedVariables false
set_option linter.unusedSimpArgs false
set_option maxRecDepth 100000

theorem Compare_is (a b : Pl) (v : Int) (h : cmpP a b = v) (w : World) : Calls Tryd.prog 26 #[.agg #[.int .i64 a.l, .int .i64 a.c], .agg #[.int .i64 b.l, .int .i64 b.c]] w fun e w' => e = .returned (.int .i64 v) ∧ Kept [] w w' := by
  subst h
  exact Compare_any a b w
theorem Order_is (a b x y : Pl) (h : ordP a b = (x, y)) (w : World) : Calls Tryd.prog 27 #[.agg #[.int .i64 a.l, .int .i64 a.c], .agg #[.int .i64 b.l, .int .i64 b.c]] w fun e w' => e = .returned (.tuple #[.agg #[.int .i64 x.l, .int .i64 x.c], .agg #[.int .i64 y.l, .int .i64 y.c]]) ∧ Kept [] w w' := by
  have := Order_any a b w
  rw [h] at this
  exact this
theorem Within_is (p f t : Pl) (v : Bool) (h : withP p f t = v) (w : World) : Calls Tryd.prog 28 #[.agg #[.int .i64 p.l, .int .i64 p.c], .agg #[.int .i64 f.l, .int .i64 f.c], .agg #[.int .i64 t.l, .int .i64 t.c]] w fun e w' => e = .returned (.bool v) ∧ Kept [] w w' := by
  subst h
  exact Within_any p f t w
theorem dec_12 : Lib.decDigits 12 = [49, 50] := by rw [dec_big (by decide), dec_small (by decide)]; rfl
theorem dec_0 : Lib.decDigits 0 = [48] := by rw [dec_small (by decide)]; rfl
theorem dec_3 : Lib.decDigits 3 = [51] := by rw [dec_small (by decide)]; rfl
theorem dec_7 : Lib.decDigits 7 = [55] := by rw [dec_small (by decide)]; rfl
theorem t_12 : textL ⟨12, 0⟩ = [49, 50, 58, 48] := by show Lib.decDigits 12 ++ 58 :: Lib.decDigits 0 = _; rw [dec_12, dec_0]; rfl
theorem t_73 : textL ⟨7, 3⟩ = [55, 58, 51] := by show Lib.decDigits 7 ++ 58 :: Lib.decDigits 3 = _; rw [dec_7, dec_3]; rfl
theorem t_70 : textL ⟨7, 0⟩ = [55, 58, 48] := by show Lib.decDigits 7 ++ 58 :: Lib.decDigits 0 = _; rw [dec_7, dec_0]; rfl
theorem kt_12 : (decide ((textE ⟨12, 0⟩).1 = (⟨#[49, 50, 58, 48]⟩ : ByteArray).data.toList) && decide ((textE ⟨12, 0⟩).2 = 0)) = true := by
  unfold textE; rw [if_pos (by decide), t_12]; rfl
theorem kt_0 : (decide ((textE ⟨-1, 0⟩).1 = (⟨#[]⟩ : ByteArray).data.toList) && decide ((textE ⟨-1, 0⟩).2 = 2)) = true := by
  unfold textE; rw [if_neg (by decide)]; rfl
theorem kp_555851 : (decide ((parseE (⟨#[55, 58, 51]⟩ : ByteArray).data.toList).1 = ⟨7, 3⟩) && decide ((parseE (⟨#[55, 58, 51]⟩ : ByteArray).data.toList).2 = 0)) = true := by
  have h : parseE [55, 58, 51] = (⟨7, 3⟩, 0) := by rw [← t_73]; exact parse_text (by decide)
  show (decide ((parseE [55, 58, 51]).1 = _) && decide ((parseE [55, 58, 51]).2 = 0)) = true
  rw [h]; rfl
theorem kp_48555851 : (decide ((parseE (⟨#[48, 55, 58, 51]⟩ : ByteArray).data.toList).1 = ⟨0, 0⟩) && decide ((parseE (⟨#[48, 55, 58, 51]⟩ : ByteArray).data.toList).2 = 6)) = true := by
  have h : parseE [48, 55, 58, 51] = (p0, 6) := by rw [parse_some (q := 1) (a := 7) (b := 3) rfl, t_73, if_neg (by decide)]
  show (decide ((parseE [48, 55, 58, 51]).1 = _) && decide ((parseE [48, 55, 58, 51]).2 = 6)) = true
  rw [h]; rfl
theorem kp_55 : (decide ((parseE (⟨#[55]⟩ : ByteArray).data.toList).1 = ⟨0, 0⟩) && decide ((parseE (⟨#[55]⟩ : ByteArray).data.toList).2 = 6)) = true := by
  have h : parseE [55] = (p0, 6) := by rw [parse_some (q := 0) (a := 7) (b := 0) rfl, t_70, if_neg (by decide)]
  show (decide ((parseE [55]).1 = _) && decide ((parseE [55]).2 = 6)) = true
  rw [h]; rfl
theorem kp_555849484849 : (decide ((parseE (⟨#[55, 58, 49, 48, 48, 49]⟩ : ByteArray).data.toList).1 = ⟨0, 0⟩) && decide ((parseE (⟨#[55, 58, 49, 48, 48, 49]⟩ : ByteArray).data.toList).2 = 6)) = true := by
  have h : parseE [55, 58, 49, 48, 48, 49] = (p0, 6) := by rw [parse_some (q := 1) (a := 7) (b := 1001) rfl, if_neg (fun h => absurd h.1 (by decide))]
  show (decide ((parseE [55, 58, 49, 48, 48, 49]).1 = _) && decide ((parseE [55, 58, 49, 48, 48, 49]).2 = 6)) = true
  rw [h]; rfl
set_option maxHeartbeats 20000000 in
theorem known9_any (w : World) (ht : PlT w) : Calls Tryd.prog 29 #[] w fun e w' => e = .returned (.bool true) ∧ Kept [] w w' := by
  have hT := hide ht
  clear ht
  go_enter Tryd.func29, Tryd.ntmps29
  go_wp2_with fail
  refine (at_any 3 0 _).mono ?_
  rintro e x1 ⟨rfl, j1⟩
  have k1 : Kept [] w x1 := j1
  go_wp2_with fail
  refine (at_any 2 9 _).mono ?_
  rintro e x2 ⟨rfl, j2⟩
  have k2 : Kept [] w x2 := k1.trans j2 (by simp)
  clear j2
  go_wp2_with fail
  refine (Order_is ⟨3, 0⟩ ⟨2, 9⟩ ⟨2, 9⟩ ⟨3, 0⟩ (by decide) _).mono ?_
  rintro e x3 ⟨rfl, j3⟩
  have k3 : Kept [] w x3 := k2.trans j3 (by simp)
  clear j3
  go_upto_region 2 with fail
  obtain ⟨x4, hx4⟩ : ∃ z : World, z = ((x3.alloc (.cells #[.int .i64 2, .int .i64 9] 49)).alloc (.cells #[.int .i64 3, .int .i64 0] 49)) := ⟨_, rfl⟩
  have k4 : Kept [] w x4 := by rw [hx4]; exact ((k3).alloc _).alloc _
  have bt1 : PlB x4 (x3.heap.size) ⟨2, 9⟩ := by rw [hx4]; exact (PlB.newAt _ ⟨2, 9⟩ (by simp)).kept ((Kept.refl [] _).alloc _) (by simp)
  have bt2 : PlB x4 (x3.heap.size + 1) ⟨3, 0⟩ := by rw [hx4]; exact PlB.newAt _ ⟨3, 0⟩ (by simp)
  rw [← hx4]
  clear hx4
  have ct1 := bt1.c0
  have dt1 := bt1.c1
  simp only at ct1 dt1
  have lt1 := bt1.lt
  have ct2 := bt2.c0
  have dt2 := bt2.c1
  simp only at ct2 dt2
  have lt2 := bt2.lt
  generalize x3.heap.size = g4 at *
  go_upto_region 2 with fail
  refine wp_region_held_drew (S := (fun w1 => (w1.cell? ⟨g4, 0, none⟩ = some (.int .i64 2) ∧ w1.cell? ⟨g4, 1, none⟩ = some (.int .i64 9)) ∧ (w1.cell? ⟨g4 + 1, 0, none⟩ = some (.int .i64 3) ∧ w1.cell? ⟨g4 + 1, 1, none⟩ = some (.int .i64 0)))) (by kernel_rfl) ?_ (fun hHeld => ?_)
  · (try dsimp only); (first | exact ⟨⟨m23.cell ct1 (by simp), m23.cell dt1 (by simp)⟩, ⟨m23.cell ct2 (by simp), m23.cell dt2 (by simp)⟩⟩ | exact ⟨⟨m22.cell ct1 (by simp), m22.cell dt1 (by simp)⟩, ⟨m22.cell ct2 (by simp), m22.cell dt2 (by simp)⟩⟩ | exact ⟨⟨m21.cell ct1 (by simp), m21.cell dt1 (by simp)⟩, ⟨m21.cell ct2 (by simp), m21.cell dt2 (by simp)⟩⟩ | exact ⟨⟨m20.cell ct1 (by simp), m20.cell dt1 (by simp)⟩, ⟨m20.cell ct2 (by simp), m20.cell dt2 (by simp)⟩⟩ | exact ⟨⟨m19.cell ct1 (by simp), m19.cell dt1 (by simp)⟩, ⟨m19.cell ct2 (by simp), m19.cell dt2 (by simp)⟩⟩ | exact ⟨⟨m18.cell ct1 (by simp), m18.cell dt1 (by simp)⟩, ⟨m18.cell ct2 (by simp), m18.cell dt2 (by simp)⟩⟩ | exact ⟨⟨m17.cell ct1 (by simp), m17.cell dt1 (by simp)⟩, ⟨m17.cell ct2 (by simp), m17.cell dt2 (by simp)⟩⟩ | exact ⟨⟨m16.cell ct1 (by simp), m16.cell dt1 (by simp)⟩, ⟨m16.cell ct2 (by simp), m16.cell dt2 (by simp)⟩⟩ | exact ⟨⟨m15.cell ct1 (by simp), m15.cell dt1 (by simp)⟩, ⟨m15.cell ct2 (by simp), m15.cell dt2 (by simp)⟩⟩ | exact ⟨⟨m14.cell ct1 (by simp), m14.cell dt1 (by simp)⟩, ⟨m14.cell ct2 (by simp), m14.cell dt2 (by simp)⟩⟩ | exact ⟨⟨m13.cell ct1 (by simp), m13.cell dt1 (by simp)⟩, ⟨m13.cell ct2 (by simp), m13.cell dt2 (by simp)⟩⟩ | exact ⟨⟨m12.cell ct1 (by simp), m12.cell dt1 (by simp)⟩, ⟨m12.cell ct2 (by simp), m12.cell dt2 (by simp)⟩⟩ | exact ⟨⟨m11.cell ct1 (by simp), m11.cell dt1 (by simp)⟩, ⟨m11.cell ct2 (by simp), m11.cell dt2 (by simp)⟩⟩ | exact ⟨⟨m10.cell ct1 (by simp), m10.cell dt1 (by simp)⟩, ⟨m10.cell ct2 (by simp), m10.cell dt2 (by simp)⟩⟩ | exact ⟨⟨m9.cell ct1 (by simp), m9.cell dt1 (by simp)⟩, ⟨m9.cell ct2 (by simp), m9.cell dt2 (by simp)⟩⟩ | exact ⟨⟨m8.cell ct1 (by simp), m8.cell dt1 (by simp)⟩, ⟨m8.cell ct2 (by simp), m8.cell dt2 (by simp)⟩⟩ | exact ⟨⟨m7.cell ct1 (by simp), m7.cell dt1 (by simp)⟩, ⟨m7.cell ct2 (by simp), m7.cell dt2 (by simp)⟩⟩ | exact ⟨⟨m6.cell ct1 (by simp), m6.cell dt1 (by simp)⟩, ⟨m6.cell ct2 (by simp), m6.cell dt2 (by simp)⟩⟩ | exact ⟨⟨m5.cell ct1 (by simp), m5.cell dt1 (by simp)⟩, ⟨m5.cell ct2 (by simp), m5.cell dt2 (by simp)⟩⟩ | exact ⟨⟨((Kept.refl [] x4).drew).cell ct1 (by simp), ((Kept.refl [] x4).drew).cell dt1 (by simp)⟩, ⟨((Kept.refl [] x4).drew).cell ct2 (by simp), ((Kept.refl [] x4).drew).cell dt2 (by simp)⟩⟩)
  refine wpAnyH_ready (rs := [0]) (by kernel_rfl) (by simp) ?_
  refine AllReadyH.cons rfl (fun K hK => ?_) AllReadyH.nil
  go_simp
  refine (at_any 2 5 _).mono ?_; rintro e x5 ⟨rfl, j5⟩; have k5 : Kept [] w x5 := (k4.drew).trans j5 (by simp); have m5 : Kept [] x4 x5 := (Kept.refl [] x4).drew.trans j5 (by simp)
  try go_wp2_with fail
  refine hK.out _ _ ?_ (fun hHeld => ?_)
  · (try dsimp only); (first | exact ⟨⟨m23.cell ct1 (by simp), m23.cell dt1 (by simp)⟩, ⟨m23.cell ct2 (by simp), m23.cell dt2 (by simp)⟩⟩ | exact ⟨⟨m22.cell ct1 (by simp), m22.cell dt1 (by simp)⟩, ⟨m22.cell ct2 (by simp), m22.cell dt2 (by simp)⟩⟩ | exact ⟨⟨m21.cell ct1 (by simp), m21.cell dt1 (by simp)⟩, ⟨m21.cell ct2 (by simp), m21.cell dt2 (by simp)⟩⟩ | exact ⟨⟨m20.cell ct1 (by simp), m20.cell dt1 (by simp)⟩, ⟨m20.cell ct2 (by simp), m20.cell dt2 (by simp)⟩⟩ | exact ⟨⟨m19.cell ct1 (by simp), m19.cell dt1 (by simp)⟩, ⟨m19.cell ct2 (by simp), m19.cell dt2 (by simp)⟩⟩ | exact ⟨⟨m18.cell ct1 (by simp), m18.cell dt1 (by simp)⟩, ⟨m18.cell ct2 (by simp), m18.cell dt2 (by simp)⟩⟩ | exact ⟨⟨m17.cell ct1 (by simp), m17.cell dt1 (by simp)⟩, ⟨m17.cell ct2 (by simp), m17.cell dt2 (by simp)⟩⟩ | exact ⟨⟨m16.cell ct1 (by simp), m16.cell dt1 (by simp)⟩, ⟨m16.cell ct2 (by simp), m16.cell dt2 (by simp)⟩⟩ | exact ⟨⟨m15.cell ct1 (by simp), m15.cell dt1 (by simp)⟩, ⟨m15.cell ct2 (by simp), m15.cell dt2 (by simp)⟩⟩ | exact ⟨⟨m14.cell ct1 (by simp), m14.cell dt1 (by simp)⟩, ⟨m14.cell ct2 (by simp), m14.cell dt2 (by simp)⟩⟩ | exact ⟨⟨m13.cell ct1 (by simp), m13.cell dt1 (by simp)⟩, ⟨m13.cell ct2 (by simp), m13.cell dt2 (by simp)⟩⟩ | exact ⟨⟨m12.cell ct1 (by simp), m12.cell dt1 (by simp)⟩, ⟨m12.cell ct2 (by simp), m12.cell dt2 (by simp)⟩⟩ | exact ⟨⟨m11.cell ct1 (by simp), m11.cell dt1 (by simp)⟩, ⟨m11.cell ct2 (by simp), m11.cell dt2 (by simp)⟩⟩ | exact ⟨⟨m10.cell ct1 (by simp), m10.cell dt1 (by simp)⟩, ⟨m10.cell ct2 (by simp), m10.cell dt2 (by simp)⟩⟩ | exact ⟨⟨m9.cell ct1 (by simp), m9.cell dt1 (by simp)⟩, ⟨m9.cell ct2 (by simp), m9.cell dt2 (by simp)⟩⟩ | exact ⟨⟨m8.cell ct1 (by simp), m8.cell dt1 (by simp)⟩, ⟨m8.cell ct2 (by simp), m8.cell dt2 (by simp)⟩⟩ | exact ⟨⟨m7.cell ct1 (by simp), m7.cell dt1 (by simp)⟩, ⟨m7.cell ct2 (by simp), m7.cell dt2 (by simp)⟩⟩ | exact ⟨⟨m6.cell ct1 (by simp), m6.cell dt1 (by simp)⟩, ⟨m6.cell ct2 (by simp), m6.cell dt2 (by simp)⟩⟩ | exact ⟨⟨m5.cell ct1 (by simp), m5.cell dt1 (by simp)⟩, ⟨m5.cell ct2 (by simp), m5.cell dt2 (by simp)⟩⟩ | exact ⟨⟨((Kept.refl [] x4).drew).cell ct1 (by simp), ((Kept.refl [] x4).drew).cell dt1 (by simp)⟩, ⟨((Kept.refl [] x4).drew).cell ct2 (by simp), ((Kept.refl [] x4).drew).cell dt2 (by simp)⟩⟩)
  clear hK K
  try simp only [Act.put, List.getElem_toArray, List.getElem_cons_succ, List.getElem_cons_zero, List.setIfInBounds_toArray, List.set_cons_zero, List.set_cons_succ]
  refine wpAnyH_ready (rs := [1]) (by kernel_rfl) (by simp) ?_
  refine AllReadyH.cons rfl (fun K hK => ?_) AllReadyH.nil
  go_simp
  refine (at_any 2 6 _).mono ?_; rintro e x6 ⟨rfl, j6⟩; have k6 : Kept [] w x6 := k5.trans j6 (by simp); have m6 : Kept [] x4 x6 := m5.trans j6 (by simp)
  try go_wp2_with fail
  refine hK.out _ _ ?_ (fun hHeld => ?_)
  · (try dsimp only); (first | exact ⟨⟨m23.cell ct1 (by simp), m23.cell dt1 (by simp)⟩, ⟨m23.cell ct2 (by simp), m23.cell dt2 (by simp)⟩⟩ | exact ⟨⟨m22.cell ct1 (by simp), m22.cell dt1 (by simp)⟩, ⟨m22.cell ct2 (by simp), m22.cell dt2 (by simp)⟩⟩ | exact ⟨⟨m21.cell ct1 (by simp), m21.cell dt1 (by simp)⟩, ⟨m21.cell ct2 (by simp), m21.cell dt2 (by simp)⟩⟩ | exact ⟨⟨m20.cell ct1 (by simp), m20.cell dt1 (by simp)⟩, ⟨m20.cell ct2 (by simp), m20.cell dt2 (by simp)⟩⟩ | exact ⟨⟨m19.cell ct1 (by simp), m19.cell dt1 (by simp)⟩, ⟨m19.cell ct2 (by simp), m19.cell dt2 (by simp)⟩⟩ | exact ⟨⟨m18.cell ct1 (by simp), m18.cell dt1 (by simp)⟩, ⟨m18.cell ct2 (by simp), m18.cell dt2 (by simp)⟩⟩ | exact ⟨⟨m17.cell ct1 (by simp), m17.cell dt1 (by simp)⟩, ⟨m17.cell ct2 (by simp), m17.cell dt2 (by simp)⟩⟩ | exact ⟨⟨m16.cell ct1 (by simp), m16.cell dt1 (by simp)⟩, ⟨m16.cell ct2 (by simp), m16.cell dt2 (by simp)⟩⟩ | exact ⟨⟨m15.cell ct1 (by simp), m15.cell dt1 (by simp)⟩, ⟨m15.cell ct2 (by simp), m15.cell dt2 (by simp)⟩⟩ | exact ⟨⟨m14.cell ct1 (by simp), m14.cell dt1 (by simp)⟩, ⟨m14.cell ct2 (by simp), m14.cell dt2 (by simp)⟩⟩ | exact ⟨⟨m13.cell ct1 (by simp), m13.cell dt1 (by simp)⟩, ⟨m13.cell ct2 (by simp), m13.cell dt2 (by simp)⟩⟩ | exact ⟨⟨m12.cell ct1 (by simp), m12.cell dt1 (by simp)⟩, ⟨m12.cell ct2 (by simp), m12.cell dt2 (by simp)⟩⟩ | exact ⟨⟨m11.cell ct1 (by simp), m11.cell dt1 (by simp)⟩, ⟨m11.cell ct2 (by simp), m11.cell dt2 (by simp)⟩⟩ | exact ⟨⟨m10.cell ct1 (by simp), m10.cell dt1 (by simp)⟩, ⟨m10.cell ct2 (by simp), m10.cell dt2 (by simp)⟩⟩ | exact ⟨⟨m9.cell ct1 (by simp), m9.cell dt1 (by simp)⟩, ⟨m9.cell ct2 (by simp), m9.cell dt2 (by simp)⟩⟩ | exact ⟨⟨m8.cell ct1 (by simp), m8.cell dt1 (by simp)⟩, ⟨m8.cell ct2 (by simp), m8.cell dt2 (by simp)⟩⟩ | exact ⟨⟨m7.cell ct1 (by simp), m7.cell dt1 (by simp)⟩, ⟨m7.cell ct2 (by simp), m7.cell dt2 (by simp)⟩⟩ | exact ⟨⟨m6.cell ct1 (by simp), m6.cell dt1 (by simp)⟩, ⟨m6.cell ct2 (by simp), m6.cell dt2 (by simp)⟩⟩ | exact ⟨⟨m5.cell ct1 (by simp), m5.cell dt1 (by simp)⟩, ⟨m5.cell ct2 (by simp), m5.cell dt2 (by simp)⟩⟩ | exact ⟨⟨((Kept.refl [] x4).drew).cell ct1 (by simp), ((Kept.refl [] x4).drew).cell dt1 (by simp)⟩, ⟨((Kept.refl [] x4).drew).cell ct2 (by simp), ((Kept.refl [] x4).drew).cell dt2 (by simp)⟩⟩)
  clear hK K
  try simp only [Act.put, List.getElem_toArray, List.getElem_cons_succ, List.getElem_cons_zero, List.setIfInBounds_toArray, List.set_cons_zero, List.set_cons_succ]
  refine wpAnyH_ready (rs := [2]) (by kernel_rfl) (by simp) ?_
  refine AllReadyH.cons rfl (fun K hK => ?_) AllReadyH.nil
  go_simp
  refine (Compare_is ⟨2, 5⟩ ⟨2, 6⟩ (-1) (by decide) _).mono ?_; rintro e x7 ⟨rfl, j7⟩; have k7 : Kept [] w x7 := k6.trans j7 (by simp); have m7 : Kept [] x4 x7 := m6.trans j7 (by simp)
  try go_wp2_with fail
  refine hK.out _ _ ?_ (fun hHeld => ?_)
  · (try dsimp only); (first | exact ⟨⟨m23.cell ct1 (by simp), m23.cell dt1 (by simp)⟩, ⟨m23.cell ct2 (by simp), m23.cell dt2 (by simp)⟩⟩ | exact ⟨⟨m22.cell ct1 (by simp), m22.cell dt1 (by simp)⟩, ⟨m22.cell ct2 (by simp), m22.cell dt2 (by simp)⟩⟩ | exact ⟨⟨m21.cell ct1 (by simp), m21.cell dt1 (by simp)⟩, ⟨m21.cell ct2 (by simp), m21.cell dt2 (by simp)⟩⟩ | exact ⟨⟨m20.cell ct1 (by simp), m20.cell dt1 (by simp)⟩, ⟨m20.cell ct2 (by simp), m20.cell dt2 (by simp)⟩⟩ | exact ⟨⟨m19.cell ct1 (by simp), m19.cell dt1 (by simp)⟩, ⟨m19.cell ct2 (by simp), m19.cell dt2 (by simp)⟩⟩ | exact ⟨⟨m18.cell ct1 (by simp), m18.cell dt1 (by simp)⟩, ⟨m18.cell ct2 (by simp), m18.cell dt2 (by simp)⟩⟩ | exact ⟨⟨m17.cell ct1 (by simp), m17.cell dt1 (by simp)⟩, ⟨m17.cell ct2 (by simp), m17.cell dt2 (by simp)⟩⟩ | exact ⟨⟨m16.cell ct1 (by simp), m16.cell dt1 (by simp)⟩, ⟨m16.cell ct2 (by simp), m16.cell dt2 (by simp)⟩⟩ | exact ⟨⟨m15.cell ct1 (by simp), m15.cell dt1 (by simp)⟩, ⟨m15.cell ct2 (by simp), m15.cell dt2 (by simp)⟩⟩ | exact ⟨⟨m14.cell ct1 (by simp), m14.cell dt1 (by simp)⟩, ⟨m14.cell ct2 (by simp), m14.cell dt2 (by simp)⟩⟩ | exact ⟨⟨m13.cell ct1 (by simp), m13.cell dt1 (by simp)⟩, ⟨m13.cell ct2 (by simp), m13.cell dt2 (by simp)⟩⟩ | exact ⟨⟨m12.cell ct1 (by simp), m12.cell dt1 (by simp)⟩, ⟨m12.cell ct2 (by simp), m12.cell dt2 (by simp)⟩⟩ | exact ⟨⟨m11.cell ct1 (by simp), m11.cell dt1 (by simp)⟩, ⟨m11.cell ct2 (by simp), m11.cell dt2 (by simp)⟩⟩ | exact ⟨⟨m10.cell ct1 (by simp), m10.cell dt1 (by simp)⟩, ⟨m10.cell ct2 (by simp), m10.cell dt2 (by simp)⟩⟩ | exact ⟨⟨m9.cell ct1 (by simp), m9.cell dt1 (by simp)⟩, ⟨m9.cell ct2 (by simp), m9.cell dt2 (by simp)⟩⟩ | exact ⟨⟨m8.cell ct1 (by simp), m8.cell dt1 (by simp)⟩, ⟨m8.cell ct2 (by simp), m8.cell dt2 (by simp)⟩⟩ | exact ⟨⟨m7.cell ct1 (by simp), m7.cell dt1 (by simp)⟩, ⟨m7.cell ct2 (by simp), m7.cell dt2 (by simp)⟩⟩ | exact ⟨⟨m6.cell ct1 (by simp), m6.cell dt1 (by simp)⟩, ⟨m6.cell ct2 (by simp), m6.cell dt2 (by simp)⟩⟩ | exact ⟨⟨m5.cell ct1 (by simp), m5.cell dt1 (by simp)⟩, ⟨m5.cell ct2 (by simp), m5.cell dt2 (by simp)⟩⟩ | exact ⟨⟨((Kept.refl [] x4).drew).cell ct1 (by simp), ((Kept.refl [] x4).drew).cell dt1 (by simp)⟩, ⟨((Kept.refl [] x4).drew).cell ct2 (by simp), ((Kept.refl [] x4).drew).cell dt2 (by simp)⟩⟩)
  clear hK K
  try simp only [Act.put, List.getElem_toArray, List.getElem_cons_succ, List.getElem_cons_zero, List.setIfInBounds_toArray, List.set_cons_zero, List.set_cons_succ]
  refine wpAnyH_take (i := 3) (v := ?_) rfl (by kernel_rfl) (by kernel_rfl) (by kernel_rfl) (fun _ _ _ h => h) (Or.inl ⟨by rfl, ?_⟩) (by assumption) ?_
  rotate_left
  · (intro wq hSw; (try dsimp only at hSw); go_simp; try with_reducible rfl)
  try simp only [Act.put, List.getElem_toArray, List.getElem_cons_succ, List.getElem_cons_zero, List.setIfInBounds_toArray, List.set_cons_zero, List.set_cons_succ]
  refine wpAnyH_take (i := 4) (v := ?_) rfl (by kernel_rfl) (by kernel_rfl) (by kernel_rfl) (fun _ _ _ h => h) (Or.inl ⟨by rfl, ?_⟩) (by assumption) ?_
  rotate_left
  · (intro wq hSw; (try dsimp only at hSw); go_simp; try with_reducible rfl)
  try simp only [Act.put, List.getElem_toArray, List.getElem_cons_succ, List.getElem_cons_zero, List.setIfInBounds_toArray, List.set_cons_zero, List.set_cons_succ]
  refine wpAnyH_ready (rs := [5]) (by kernel_rfl) (by simp) ?_
  refine AllReadyH.cons rfl (fun K hK => ?_) AllReadyH.nil
  go_simp
  refine (at_any 3 0 _).mono ?_; rintro e x8 ⟨rfl, j8⟩; have k8 : Kept [] w x8 := k7.trans j8 (by simp); have m8 : Kept [] x4 x8 := m7.trans j8 (by simp)
  try go_wp2_with fail
  refine hK.out _ _ ?_ (fun hHeld => ?_)
  · (try dsimp only); (first | exact ⟨⟨m23.cell ct1 (by simp), m23.cell dt1 (by simp)⟩, ⟨m23.cell ct2 (by simp), m23.cell dt2 (by simp)⟩⟩ | exact ⟨⟨m22.cell ct1 (by simp), m22.cell dt1 (by simp)⟩, ⟨m22.cell ct2 (by simp), m22.cell dt2 (by simp)⟩⟩ | exact ⟨⟨m21.cell ct1 (by simp), m21.cell dt1 (by simp)⟩, ⟨m21.cell ct2 (by simp), m21.cell dt2 (by simp)⟩⟩ | exact ⟨⟨m20.cell ct1 (by simp), m20.cell dt1 (by simp)⟩, ⟨m20.cell ct2 (by simp), m20.cell dt2 (by simp)⟩⟩ | exact ⟨⟨m19.cell ct1 (by simp), m19.cell dt1 (by simp)⟩, ⟨m19.cell ct2 (by simp), m19.cell dt2 (by simp)⟩⟩ | exact ⟨⟨m18.cell ct1 (by simp), m18.cell dt1 (by simp)⟩, ⟨m18.cell ct2 (by simp), m18.cell dt2 (by simp)⟩⟩ | exact ⟨⟨m17.cell ct1 (by simp), m17.cell dt1 (by simp)⟩, ⟨m17.cell ct2 (by simp), m17.cell dt2 (by simp)⟩⟩ | exact ⟨⟨m16.cell ct1 (by simp), m16.cell dt1 (by simp)⟩, ⟨m16.cell ct2 (by simp), m16.cell dt2 (by simp)⟩⟩ | exact ⟨⟨m15.cell ct1 (by simp), m15.cell dt1 (by simp)⟩, ⟨m15.cell ct2 (by simp), m15.cell dt2 (by simp)⟩⟩ | exact ⟨⟨m14.cell ct1 (by simp), m14.cell dt1 (by simp)⟩, ⟨m14.cell ct2 (by simp), m14.cell dt2 (by simp)⟩⟩ | exact ⟨⟨m13.cell ct1 (by simp), m13.cell dt1 (by simp)⟩, ⟨m13.cell ct2 (by simp), m13.cell dt2 (by simp)⟩⟩ | exact ⟨⟨m12.cell ct1 (by simp), m12.cell dt1 (by simp)⟩, ⟨m12.cell ct2 (by simp), m12.cell dt2 (by simp)⟩⟩ | exact ⟨⟨m11.cell ct1 (by simp), m11.cell dt1 (by simp)⟩, ⟨m11.cell ct2 (by simp), m11.cell dt2 (by simp)⟩⟩ | exact ⟨⟨m10.cell ct1 (by simp), m10.cell dt1 (by simp)⟩, ⟨m10.cell ct2 (by simp), m10.cell dt2 (by simp)⟩⟩ | exact ⟨⟨m9.cell ct1 (by simp), m9.cell dt1 (by simp)⟩, ⟨m9.cell ct2 (by simp), m9.cell dt2 (by simp)⟩⟩ | exact ⟨⟨m8.cell ct1 (by simp), m8.cell dt1 (by simp)⟩, ⟨m8.cell ct2 (by simp), m8.cell dt2 (by simp)⟩⟩ | exact ⟨⟨m7.cell ct1 (by simp), m7.cell dt1 (by simp)⟩, ⟨m7.cell ct2 (by simp), m7.cell dt2 (by simp)⟩⟩ | exact ⟨⟨m6.cell ct1 (by simp), m6.cell dt1 (by simp)⟩, ⟨m6.cell ct2 (by simp), m6.cell dt2 (by simp)⟩⟩ | exact ⟨⟨m5.cell ct1 (by simp), m5.cell dt1 (by simp)⟩, ⟨m5.cell ct2 (by simp), m5.cell dt2 (by simp)⟩⟩ | exact ⟨⟨((Kept.refl [] x4).drew).cell ct1 (by simp), ((Kept.refl [] x4).drew).cell dt1 (by simp)⟩, ⟨((Kept.refl [] x4).drew).cell ct2 (by simp), ((Kept.refl [] x4).drew).cell dt2 (by simp)⟩⟩)
  clear hK K
  try simp only [Act.put, List.getElem_toArray, List.getElem_cons_succ, List.getElem_cons_zero, List.setIfInBounds_toArray, List.set_cons_zero, List.set_cons_succ]
  refine wpAnyH_ready (rs := [6]) (by kernel_rfl) (by simp) ?_
  refine AllReadyH.cons rfl (fun K hK => ?_) AllReadyH.nil
  go_simp
  refine (at_any 2 9 _).mono ?_; rintro e x9 ⟨rfl, j9⟩; have k9 : Kept [] w x9 := k8.trans j9 (by simp); have m9 : Kept [] x4 x9 := m8.trans j9 (by simp)
  try go_wp2_with fail
  refine hK.out _ _ ?_ (fun hHeld => ?_)
  · (try dsimp only); (first | exact ⟨⟨m23.cell ct1 (by simp), m23.cell dt1 (by simp)⟩, ⟨m23.cell ct2 (by simp), m23.cell dt2 (by simp)⟩⟩ | exact ⟨⟨m22.cell ct1 (by simp), m22.cell dt1 (by simp)⟩, ⟨m22.cell ct2 (by simp), m22.cell dt2 (by simp)⟩⟩ | exact ⟨⟨m21.cell ct1 (by simp), m21.cell dt1 (by simp)⟩, ⟨m21.cell ct2 (by simp), m21.cell dt2 (by simp)⟩⟩ | exact ⟨⟨m20.cell ct1 (by simp), m20.cell dt1 (by simp)⟩, ⟨m20.cell ct2 (by simp), m20.cell dt2 (by simp)⟩⟩ | exact ⟨⟨m19.cell ct1 (by simp), m19.cell dt1 (by simp)⟩, ⟨m19.cell ct2 (by simp), m19.cell dt2 (by simp)⟩⟩ | exact ⟨⟨m18.cell ct1 (by simp), m18.cell dt1 (by simp)⟩, ⟨m18.cell ct2 (by simp), m18.cell dt2 (by simp)⟩⟩ | exact ⟨⟨m17.cell ct1 (by simp), m17.cell dt1 (by simp)⟩, ⟨m17.cell ct2 (by simp), m17.cell dt2 (by simp)⟩⟩ | exact ⟨⟨m16.cell ct1 (by simp), m16.cell dt1 (by simp)⟩, ⟨m16.cell ct2 (by simp), m16.cell dt2 (by simp)⟩⟩ | exact ⟨⟨m15.cell ct1 (by simp), m15.cell dt1 (by simp)⟩, ⟨m15.cell ct2 (by simp), m15.cell dt2 (by simp)⟩⟩ | exact ⟨⟨m14.cell ct1 (by simp), m14.cell dt1 (by simp)⟩, ⟨m14.cell ct2 (by simp), m14.cell dt2 (by simp)⟩⟩ | exact ⟨⟨m13.cell ct1 (by simp), m13.cell dt1 (by simp)⟩, ⟨m13.cell ct2 (by simp), m13.cell dt2 (by simp)⟩⟩ | exact ⟨⟨m12.cell ct1 (by simp), m12.cell dt1 (by simp)⟩, ⟨m12.cell ct2 (by simp), m12.cell dt2 (by simp)⟩⟩ | exact ⟨⟨m11.cell ct1 (by simp), m11.cell dt1 (by simp)⟩, ⟨m11.cell ct2 (by simp), m11.cell dt2 (by simp)⟩⟩ | exact ⟨⟨m10.cell ct1 (by simp), m10.cell dt1 (by simp)⟩, ⟨m10.cell ct2 (by simp), m10.cell dt2 (by simp)⟩⟩ | exact ⟨⟨m9.cell ct1 (by simp), m9.cell dt1 (by simp)⟩, ⟨m9.cell ct2 (by simp), m9.cell dt2 (by simp)⟩⟩ | exact ⟨⟨m8.cell ct1 (by simp), m8.cell dt1 (by simp)⟩, ⟨m8.cell ct2 (by simp), m8.cell dt2 (by simp)⟩⟩ | exact ⟨⟨m7.cell ct1 (by simp), m7.cell dt1 (by simp)⟩, ⟨m7.cell ct2 (by simp), m7.cell dt2 (by simp)⟩⟩ | exact ⟨⟨m6.cell ct1 (by simp), m6.cell dt1 (by simp)⟩, ⟨m6.cell ct2 (by simp), m6.cell dt2 (by simp)⟩⟩ | exact ⟨⟨m5.cell ct1 (by simp), m5.cell dt1 (by simp)⟩, ⟨m5.cell ct2 (by simp), m5.cell dt2 (by simp)⟩⟩ | exact ⟨⟨((Kept.refl [] x4).drew).cell ct1 (by simp), ((Kept.refl [] x4).drew).cell dt1 (by simp)⟩, ⟨((Kept.refl [] x4).drew).cell ct2 (by simp), ((Kept.refl [] x4).drew).cell dt2 (by simp)⟩⟩)
  clear hK K
  try simp only [Act.put, List.getElem_toArray, List.getElem_cons_succ, List.getElem_cons_zero, List.setIfInBounds_toArray, List.set_cons_zero, List.set_cons_succ]
  refine wpAnyH_ready (rs := [7]) (by kernel_rfl) (by simp) ?_
  refine AllReadyH.cons rfl (fun K hK => ?_) AllReadyH.nil
  go_simp
  refine (Compare_is ⟨3, 0⟩ ⟨2, 9⟩ 1 (by decide) _).mono ?_; rintro e x10 ⟨rfl, j10⟩; have k10 : Kept [] w x10 := k9.trans j10 (by simp); have m10 : Kept [] x4 x10 := m9.trans j10 (by simp)
  try go_wp2_with fail
  refine hK.out _ _ ?_ (fun hHeld => ?_)
  · (try dsimp only); (first | exact ⟨⟨m23.cell ct1 (by simp), m23.cell dt1 (by simp)⟩, ⟨m23.cell ct2 (by simp), m23.cell dt2 (by simp)⟩⟩ | exact ⟨⟨m22.cell ct1 (by simp), m22.cell dt1 (by simp)⟩, ⟨m22.cell ct2 (by simp), m22.cell dt2 (by simp)⟩⟩ | exact ⟨⟨m21.cell ct1 (by simp), m21.cell dt1 (by simp)⟩, ⟨m21.cell ct2 (by simp), m21.cell dt2 (by simp)⟩⟩ | exact ⟨⟨m20.cell ct1 (by simp), m20.cell dt1 (by simp)⟩, ⟨m20.cell ct2 (by simp), m20.cell dt2 (by simp)⟩⟩ | exact ⟨⟨m19.cell ct1 (by simp), m19.cell dt1 (by simp)⟩, ⟨m19.cell ct2 (by simp), m19.cell dt2 (by simp)⟩⟩ | exact ⟨⟨m18.cell ct1 (by simp), m18.cell dt1 (by simp)⟩, ⟨m18.cell ct2 (by simp), m18.cell dt2 (by simp)⟩⟩ | exact ⟨⟨m17.cell ct1 (by simp), m17.cell dt1 (by simp)⟩, ⟨m17.cell ct2 (by simp), m17.cell dt2 (by simp)⟩⟩ | exact ⟨⟨m16.cell ct1 (by simp), m16.cell dt1 (by simp)⟩, ⟨m16.cell ct2 (by simp), m16.cell dt2 (by simp)⟩⟩ | exact ⟨⟨m15.cell ct1 (by simp), m15.cell dt1 (by simp)⟩, ⟨m15.cell ct2 (by simp), m15.cell dt2 (by simp)⟩⟩ | exact ⟨⟨m14.cell ct1 (by simp), m14.cell dt1 (by simp)⟩, ⟨m14.cell ct2 (by simp), m14.cell dt2 (by simp)⟩⟩ | exact ⟨⟨m13.cell ct1 (by simp), m13.cell dt1 (by simp)⟩, ⟨m13.cell ct2 (by simp), m13.cell dt2 (by simp)⟩⟩ | exact ⟨⟨m12.cell ct1 (by simp), m12.cell dt1 (by simp)⟩, ⟨m12.cell ct2 (by simp), m12.cell dt2 (by simp)⟩⟩ | exact ⟨⟨m11.cell ct1 (by simp), m11.cell dt1 (by simp)⟩, ⟨m11.cell ct2 (by simp), m11.cell dt2 (by simp)⟩⟩ | exact ⟨⟨m10.cell ct1 (by simp), m10.cell dt1 (by simp)⟩, ⟨m10.cell ct2 (by simp), m10.cell dt2 (by simp)⟩⟩ | exact ⟨⟨m9.cell ct1 (by simp), m9.cell dt1 (by simp)⟩, ⟨m9.cell ct2 (by simp), m9.cell dt2 (by simp)⟩⟩ | exact ⟨⟨m8.cell ct1 (by simp), m8.cell dt1 (by simp)⟩, ⟨m8.cell ct2 (by simp), m8.cell dt2 (by simp)⟩⟩ | exact ⟨⟨m7.cell ct1 (by simp), m7.cell dt1 (by simp)⟩, ⟨m7.cell ct2 (by simp), m7.cell dt2 (by simp)⟩⟩ | exact ⟨⟨m6.cell ct1 (by simp), m6.cell dt1 (by simp)⟩, ⟨m6.cell ct2 (by simp), m6.cell dt2 (by simp)⟩⟩ | exact ⟨⟨m5.cell ct1 (by simp), m5.cell dt1 (by simp)⟩, ⟨m5.cell ct2 (by simp), m5.cell dt2 (by simp)⟩⟩ | exact ⟨⟨((Kept.refl [] x4).drew).cell ct1 (by simp), ((Kept.refl [] x4).drew).cell dt1 (by simp)⟩, ⟨((Kept.refl [] x4).drew).cell ct2 (by simp), ((Kept.refl [] x4).drew).cell dt2 (by simp)⟩⟩)
  clear hK K
  try simp only [Act.put, List.getElem_toArray, List.getElem_cons_succ, List.getElem_cons_zero, List.setIfInBounds_toArray, List.set_cons_zero, List.set_cons_succ]
  refine wpAnyH_take (i := 8) (v := ?_) rfl (by kernel_rfl) (by kernel_rfl) (by kernel_rfl) (fun _ _ _ h => h) (Or.inl ⟨by rfl, ?_⟩) (by assumption) ?_
  rotate_left
  · (intro wq hSw; (try dsimp only at hSw); go_simp; try with_reducible rfl)
  try simp only [Act.put, List.getElem_toArray, List.getElem_cons_succ, List.getElem_cons_zero, List.setIfInBounds_toArray, List.set_cons_zero, List.set_cons_succ]
  refine wpAnyH_take (i := 9) (v := ?_) rfl (by kernel_rfl) (by kernel_rfl) (by kernel_rfl) (fun _ _ _ h => h) (Or.inl ⟨by rfl, ?_⟩) (by assumption) ?_
  rotate_left
  · (intro wq hSw; (try dsimp only at hSw); go_simp; try with_reducible rfl)
  try simp only [Act.put, List.getElem_toArray, List.getElem_cons_succ, List.getElem_cons_zero, List.setIfInBounds_toArray, List.set_cons_zero, List.set_cons_succ]
  refine wpAnyH_take (i := 10) (v := ?_) rfl (by kernel_rfl) (by kernel_rfl) (by kernel_rfl) (fun _ _ _ h => h) (Or.inl ⟨by rfl, ?_⟩) (by assumption) ?_
  rotate_left
  · (intro wq hSw; (try dsimp only at hSw); go_simp; try with_reducible rfl)
  try simp only [Act.put, List.getElem_toArray, List.getElem_cons_succ, List.getElem_cons_zero, List.setIfInBounds_toArray, List.set_cons_zero, List.set_cons_succ]
  refine wpAnyH_ready (rs := [11]) (by kernel_rfl) (by simp) ?_
  refine AllReadyH.cons rfl (fun K hK => ?_) AllReadyH.nil
  go_simp
  refine (at_any 2 5 _).mono ?_; rintro e x11 ⟨rfl, j11⟩; have k11 : Kept [] w x11 := k10.trans j11 (by simp); have m11 : Kept [] x4 x11 := m10.trans j11 (by simp)
  try go_wp2_with fail
  refine hK.out _ _ ?_ (fun hHeld => ?_)
  · (try dsimp only); (first | exact ⟨⟨m23.cell ct1 (by simp), m23.cell dt1 (by simp)⟩, ⟨m23.cell ct2 (by simp), m23.cell dt2 (by simp)⟩⟩ | exact ⟨⟨m22.cell ct1 (by simp), m22.cell dt1 (by simp)⟩, ⟨m22.cell ct2 (by simp), m22.cell dt2 (by simp)⟩⟩ | exact ⟨⟨m21.cell ct1 (by simp), m21.cell dt1 (by simp)⟩, ⟨m21.cell ct2 (by simp), m21.cell dt2 (by simp)⟩⟩ | exact ⟨⟨m20.cell ct1 (by simp), m20.cell dt1 (by simp)⟩, ⟨m20.cell ct2 (by simp), m20.cell dt2 (by simp)⟩⟩ | exact ⟨⟨m19.cell ct1 (by simp), m19.cell dt1 (by simp)⟩, ⟨m19.cell ct2 (by simp), m19.cell dt2 (by simp)⟩⟩ | exact ⟨⟨m18.cell ct1 (by simp), m18.cell dt1 (by simp)⟩, ⟨m18.cell ct2 (by simp), m18.cell dt2 (by simp)⟩⟩ | exact ⟨⟨m17.cell ct1 (by simp), m17.cell dt1 (by simp)⟩, ⟨m17.cell ct2 (by simp), m17.cell dt2 (by simp)⟩⟩ | exact ⟨⟨m16.cell ct1 (by simp), m16.cell dt1 (by simp)⟩, ⟨m16.cell ct2 (by simp), m16.cell dt2 (by simp)⟩⟩ | exact ⟨⟨m15.cell ct1 (by simp), m15.cell dt1 (by simp)⟩, ⟨m15.cell ct2 (by simp), m15.cell dt2 (by simp)⟩⟩ | exact ⟨⟨m14.cell ct1 (by simp), m14.cell dt1 (by simp)⟩, ⟨m14.cell ct2 (by simp), m14.cell dt2 (by simp)⟩⟩ | exact ⟨⟨m13.cell ct1 (by simp), m13.cell dt1 (by simp)⟩, ⟨m13.cell ct2 (by simp), m13.cell dt2 (by simp)⟩⟩ | exact ⟨⟨m12.cell ct1 (by simp), m12.cell dt1 (by simp)⟩, ⟨m12.cell ct2 (by simp), m12.cell dt2 (by simp)⟩⟩ | exact ⟨⟨m11.cell ct1 (by simp), m11.cell dt1 (by simp)⟩, ⟨m11.cell ct2 (by simp), m11.cell dt2 (by simp)⟩⟩ | exact ⟨⟨m10.cell ct1 (by simp), m10.cell dt1 (by simp)⟩, ⟨m10.cell ct2 (by simp), m10.cell dt2 (by simp)⟩⟩ | exact ⟨⟨m9.cell ct1 (by simp), m9.cell dt1 (by simp)⟩, ⟨m9.cell ct2 (by simp), m9.cell dt2 (by simp)⟩⟩ | exact ⟨⟨m8.cell ct1 (by simp), m8.cell dt1 (by simp)⟩, ⟨m8.cell ct2 (by simp), m8.cell dt2 (by simp)⟩⟩ | exact ⟨⟨m7.cell ct1 (by simp), m7.cell dt1 (by simp)⟩, ⟨m7.cell ct2 (by simp), m7.cell dt2 (by simp)⟩⟩ | exact ⟨⟨m6.cell ct1 (by simp), m6.cell dt1 (by simp)⟩, ⟨m6.cell ct2 (by simp), m6.cell dt2 (by simp)⟩⟩ | exact ⟨⟨m5.cell ct1 (by simp), m5.cell dt1 (by simp)⟩, ⟨m5.cell ct2 (by simp), m5.cell dt2 (by simp)⟩⟩ | exact ⟨⟨((Kept.refl [] x4).drew).cell ct1 (by simp), ((Kept.refl [] x4).drew).cell dt1 (by simp)⟩, ⟨((Kept.refl [] x4).drew).cell ct2 (by simp), ((Kept.refl [] x4).drew).cell dt2 (by simp)⟩⟩)
  clear hK K
  try simp only [Act.put, List.getElem_toArray, List.getElem_cons_succ, List.getElem_cons_zero, List.setIfInBounds_toArray, List.set_cons_zero, List.set_cons_succ]
  refine wpAnyH_ready (rs := [12]) (by kernel_rfl) (by simp) ?_
  refine AllReadyH.cons rfl (fun K hK => ?_) AllReadyH.nil
  go_simp
  refine (at_any 2 5 _).mono ?_; rintro e x12 ⟨rfl, j12⟩; have k12 : Kept [] w x12 := k11.trans j12 (by simp); have m12 : Kept [] x4 x12 := m11.trans j12 (by simp)
  try go_wp2_with fail
  refine hK.out _ _ ?_ (fun hHeld => ?_)
  · (try dsimp only); (first | exact ⟨⟨m23.cell ct1 (by simp), m23.cell dt1 (by simp)⟩, ⟨m23.cell ct2 (by simp), m23.cell dt2 (by simp)⟩⟩ | exact ⟨⟨m22.cell ct1 (by simp), m22.cell dt1 (by simp)⟩, ⟨m22.cell ct2 (by simp), m22.cell dt2 (by simp)⟩⟩ | exact ⟨⟨m21.cell ct1 (by simp), m21.cell dt1 (by simp)⟩, ⟨m21.cell ct2 (by simp), m21.cell dt2 (by simp)⟩⟩ | exact ⟨⟨m20.cell ct1 (by simp), m20.cell dt1 (by simp)⟩, ⟨m20.cell ct2 (by simp), m20.cell dt2 (by simp)⟩⟩ | exact ⟨⟨m19.cell ct1 (by simp), m19.cell dt1 (by simp)⟩, ⟨m19.cell ct2 (by simp), m19.cell dt2 (by simp)⟩⟩ | exact ⟨⟨m18.cell ct1 (by simp), m18.cell dt1 (by simp)⟩, ⟨m18.cell ct2 (by simp), m18.cell dt2 (by simp)⟩⟩ | exact ⟨⟨m17.cell ct1 (by simp), m17.cell dt1 (by simp)⟩, ⟨m17.cell ct2 (by simp), m17.cell dt2 (by simp)⟩⟩ | exact ⟨⟨m16.cell ct1 (by simp), m16.cell dt1 (by simp)⟩, ⟨m16.cell ct2 (by simp), m16.cell dt2 (by simp)⟩⟩ | exact ⟨⟨m15.cell ct1 (by simp), m15.cell dt1 (by simp)⟩, ⟨m15.cell ct2 (by simp), m15.cell dt2 (by simp)⟩⟩ | exact ⟨⟨m14.cell ct1 (by simp), m14.cell dt1 (by simp)⟩, ⟨m14.cell ct2 (by simp), m14.cell dt2 (by simp)⟩⟩ | exact ⟨⟨m13.cell ct1 (by simp), m13.cell dt1 (by simp)⟩, ⟨m13.cell ct2 (by simp), m13.cell dt2 (by simp)⟩⟩ | exact ⟨⟨m12.cell ct1 (by simp), m12.cell dt1 (by simp)⟩, ⟨m12.cell ct2 (by simp), m12.cell dt2 (by simp)⟩⟩ | exact ⟨⟨m11.cell ct1 (by simp), m11.cell dt1 (by simp)⟩, ⟨m11.cell ct2 (by simp), m11.cell dt2 (by simp)⟩⟩ | exact ⟨⟨m10.cell ct1 (by simp), m10.cell dt1 (by simp)⟩, ⟨m10.cell ct2 (by simp), m10.cell dt2 (by simp)⟩⟩ | exact ⟨⟨m9.cell ct1 (by simp), m9.cell dt1 (by simp)⟩, ⟨m9.cell ct2 (by simp), m9.cell dt2 (by simp)⟩⟩ | exact ⟨⟨m8.cell ct1 (by simp), m8.cell dt1 (by simp)⟩, ⟨m8.cell ct2 (by simp), m8.cell dt2 (by simp)⟩⟩ | exact ⟨⟨m7.cell ct1 (by simp), m7.cell dt1 (by simp)⟩, ⟨m7.cell ct2 (by simp), m7.cell dt2 (by simp)⟩⟩ | exact ⟨⟨m6.cell ct1 (by simp), m6.cell dt1 (by simp)⟩, ⟨m6.cell ct2 (by simp), m6.cell dt2 (by simp)⟩⟩ | exact ⟨⟨m5.cell ct1 (by simp), m5.cell dt1 (by simp)⟩, ⟨m5.cell ct2 (by simp), m5.cell dt2 (by simp)⟩⟩ | exact ⟨⟨((Kept.refl [] x4).drew).cell ct1 (by simp), ((Kept.refl [] x4).drew).cell dt1 (by simp)⟩, ⟨((Kept.refl [] x4).drew).cell ct2 (by simp), ((Kept.refl [] x4).drew).cell dt2 (by simp)⟩⟩)
  clear hK K
  try simp only [Act.put, List.getElem_toArray, List.getElem_cons_succ, List.getElem_cons_zero, List.setIfInBounds_toArray, List.set_cons_zero, List.set_cons_succ]
  refine wpAnyH_ready (rs := [13]) (by kernel_rfl) (by simp) ?_
  refine AllReadyH.cons rfl (fun K hK => ?_) AllReadyH.nil
  go_simp
  refine (Compare_is ⟨2, 5⟩ ⟨2, 5⟩ 0 (by decide) _).mono ?_; rintro e x13 ⟨rfl, j13⟩; have k13 : Kept [] w x13 := k12.trans j13 (by simp); have m13 : Kept [] x4 x13 := m12.trans j13 (by simp)
  try go_wp2_with fail
  refine hK.out _ _ ?_ (fun hHeld => ?_)
  · (try dsimp only); (first | exact ⟨⟨m23.cell ct1 (by simp), m23.cell dt1 (by simp)⟩, ⟨m23.cell ct2 (by simp), m23.cell dt2 (by simp)⟩⟩ | exact ⟨⟨m22.cell ct1 (by simp), m22.cell dt1 (by simp)⟩, ⟨m22.cell ct2 (by simp), m22.cell dt2 (by simp)⟩⟩ | exact ⟨⟨m21.cell ct1 (by simp), m21.cell dt1 (by simp)⟩, ⟨m21.cell ct2 (by simp), m21.cell dt2 (by simp)⟩⟩ | exact ⟨⟨m20.cell ct1 (by simp), m20.cell dt1 (by simp)⟩, ⟨m20.cell ct2 (by simp), m20.cell dt2 (by simp)⟩⟩ | exact ⟨⟨m19.cell ct1 (by simp), m19.cell dt1 (by simp)⟩, ⟨m19.cell ct2 (by simp), m19.cell dt2 (by simp)⟩⟩ | exact ⟨⟨m18.cell ct1 (by simp), m18.cell dt1 (by simp)⟩, ⟨m18.cell ct2 (by simp), m18.cell dt2 (by simp)⟩⟩ | exact ⟨⟨m17.cell ct1 (by simp), m17.cell dt1 (by simp)⟩, ⟨m17.cell ct2 (by simp), m17.cell dt2 (by simp)⟩⟩ | exact ⟨⟨m16.cell ct1 (by simp), m16.cell dt1 (by simp)⟩, ⟨m16.cell ct2 (by simp), m16.cell dt2 (by simp)⟩⟩ | exact ⟨⟨m15.cell ct1 (by simp), m15.cell dt1 (by simp)⟩, ⟨m15.cell ct2 (by simp), m15.cell dt2 (by simp)⟩⟩ | exact ⟨⟨m14.cell ct1 (by simp), m14.cell dt1 (by simp)⟩, ⟨m14.cell ct2 (by simp), m14.cell dt2 (by simp)⟩⟩ | exact ⟨⟨m13.cell ct1 (by simp), m13.cell dt1 (by simp)⟩, ⟨m13.cell ct2 (by simp), m13.cell dt2 (by simp)⟩⟩ | exact ⟨⟨m12.cell ct1 (by simp), m12.cell dt1 (by simp)⟩, ⟨m12.cell ct2 (by simp), m12.cell dt2 (by simp)⟩⟩ | exact ⟨⟨m11.cell ct1 (by simp), m11.cell dt1 (by simp)⟩, ⟨m11.cell ct2 (by simp), m11.cell dt2 (by simp)⟩⟩ | exact ⟨⟨m10.cell ct1 (by simp), m10.cell dt1 (by simp)⟩, ⟨m10.cell ct2 (by simp), m10.cell dt2 (by simp)⟩⟩ | exact ⟨⟨m9.cell ct1 (by simp), m9.cell dt1 (by simp)⟩, ⟨m9.cell ct2 (by simp), m9.cell dt2 (by simp)⟩⟩ | exact ⟨⟨m8.cell ct1 (by simp), m8.cell dt1 (by simp)⟩, ⟨m8.cell ct2 (by simp), m8.cell dt2 (by simp)⟩⟩ | exact ⟨⟨m7.cell ct1 (by simp), m7.cell dt1 (by simp)⟩, ⟨m7.cell ct2 (by simp), m7.cell dt2 (by simp)⟩⟩ | exact ⟨⟨m6.cell ct1 (by simp), m6.cell dt1 (by simp)⟩, ⟨m6.cell ct2 (by simp), m6.cell dt2 (by simp)⟩⟩ | exact ⟨⟨m5.cell ct1 (by simp), m5.cell dt1 (by simp)⟩, ⟨m5.cell ct2 (by simp), m5.cell dt2 (by simp)⟩⟩ | exact ⟨⟨((Kept.refl [] x4).drew).cell ct1 (by simp), ((Kept.refl [] x4).drew).cell dt1 (by simp)⟩, ⟨((Kept.refl [] x4).drew).cell ct2 (by simp), ((Kept.refl [] x4).drew).cell dt2 (by simp)⟩⟩)
  clear hK K
  try simp only [Act.put, List.getElem_toArray, List.getElem_cons_succ, List.getElem_cons_zero, List.setIfInBounds_toArray, List.set_cons_zero, List.set_cons_succ]
  refine wpAnyH_take (i := 14) (v := ?_) rfl (by kernel_rfl) (by kernel_rfl) (by kernel_rfl) (fun _ _ _ h => h) (Or.inl ⟨by rfl, ?_⟩) (by assumption) ?_
  rotate_left
  · (intro wq hSw; (try dsimp only at hSw); go_simp; try with_reducible rfl)
  try simp only [Act.put, List.getElem_toArray, List.getElem_cons_succ, List.getElem_cons_zero, List.setIfInBounds_toArray, List.set_cons_zero, List.set_cons_succ]
  refine wpAnyH_take (i := 15) (v := ?_) rfl (by kernel_rfl) (by kernel_rfl) (by kernel_rfl) (fun _ _ _ h => h) (Or.inl ⟨by rfl, ?_⟩) (by assumption) ?_
  rotate_left
  · (intro wq hSw; (try dsimp only at hSw); go_simp; try with_reducible rfl)
  try simp only [Act.put, List.getElem_toArray, List.getElem_cons_succ, List.getElem_cons_zero, List.setIfInBounds_toArray, List.set_cons_zero, List.set_cons_succ]
  refine wpAnyH_take (i := 16) (v := ?_) rfl (by kernel_rfl) (by kernel_rfl) (by kernel_rfl) (fun _ _ _ h => h) (Or.inl ⟨by rfl, ?_⟩) (by assumption) ?_
  rotate_left
  · (intro wq hSw; (try dsimp only at hSw); go_simp; try with_reducible rfl)
  try simp only [Act.put, List.getElem_toArray, List.getElem_cons_succ, List.getElem_cons_zero, List.setIfInBounds_toArray, List.set_cons_zero, List.set_cons_succ]
  refine wpAnyH_take (i := 17) (v := ?_) rfl (by kernel_rfl) (by kernel_rfl) (by kernel_rfl) (fun _ _ _ h => h) (Or.inl ⟨by rfl, ?_⟩) (by assumption) ?_
  rotate_left
  · (intro wq hSw; (try dsimp only at hSw); go_simp; try with_reducible rfl)
  try simp only [Act.put, List.getElem_toArray, List.getElem_cons_succ, List.getElem_cons_zero, List.setIfInBounds_toArray, List.set_cons_zero, List.set_cons_succ]
  refine wpAnyH_ready (rs := [18]) (by kernel_rfl) (by simp) ?_
  refine AllReadyH.cons rfl (fun K hK => ?_) AllReadyH.nil
  go_simp
  refine (at_any 2 9 _).mono ?_; rintro e x14 ⟨rfl, j14⟩; have k14 : Kept [] w x14 := k13.trans j14 (by simp); have m14 : Kept [] x4 x14 := m13.trans j14 (by simp)
  try go_wp2_with fail
  refine hK.out _ _ ?_ (fun hHeld => ?_)
  · (try dsimp only); (first | exact ⟨⟨m23.cell ct1 (by simp), m23.cell dt1 (by simp)⟩, ⟨m23.cell ct2 (by simp), m23.cell dt2 (by simp)⟩⟩ | exact ⟨⟨m22.cell ct1 (by simp), m22.cell dt1 (by simp)⟩, ⟨m22.cell ct2 (by simp), m22.cell dt2 (by simp)⟩⟩ | exact ⟨⟨m21.cell ct1 (by simp), m21.cell dt1 (by simp)⟩, ⟨m21.cell ct2 (by simp), m21.cell dt2 (by simp)⟩⟩ | exact ⟨⟨m20.cell ct1 (by simp), m20.cell dt1 (by simp)⟩, ⟨m20.cell ct2 (by simp), m20.cell dt2 (by simp)⟩⟩ | exact ⟨⟨m19.cell ct1 (by simp), m19.cell dt1 (by simp)⟩, ⟨m19.cell ct2 (by simp), m19.cell dt2 (by simp)⟩⟩ | exact ⟨⟨m18.cell ct1 (by simp), m18.cell dt1 (by simp)⟩, ⟨m18.cell ct2 (by simp), m18.cell dt2 (by simp)⟩⟩ | exact ⟨⟨m17.cell ct1 (by simp), m17.cell dt1 (by simp)⟩, ⟨m17.cell ct2 (by simp), m17.cell dt2 (by simp)⟩⟩ | exact ⟨⟨m16.cell ct1 (by simp), m16.cell dt1 (by simp)⟩, ⟨m16.cell ct2 (by simp), m16.cell dt2 (by simp)⟩⟩ | exact ⟨⟨m15.cell ct1 (by simp), m15.cell dt1 (by simp)⟩, ⟨m15.cell ct2 (by simp), m15.cell dt2 (by simp)⟩⟩ | exact ⟨⟨m14.cell ct1 (by simp), m14.cell dt1 (by simp)⟩, ⟨m14.cell ct2 (by simp), m14.cell dt2 (by simp)⟩⟩ | exact ⟨⟨m13.cell ct1 (by simp), m13.cell dt1 (by simp)⟩, ⟨m13.cell ct2 (by simp), m13.cell dt2 (by simp)⟩⟩ | exact ⟨⟨m12.cell ct1 (by simp), m12.cell dt1 (by simp)⟩, ⟨m12.cell ct2 (by simp), m12.cell dt2 (by simp)⟩⟩ | exact ⟨⟨m11.cell ct1 (by simp), m11.cell dt1 (by simp)⟩, ⟨m11.cell ct2 (by simp), m11.cell dt2 (by simp)⟩⟩ | exact ⟨⟨m10.cell ct1 (by simp), m10.cell dt1 (by simp)⟩, ⟨m10.cell ct2 (by simp), m10.cell dt2 (by simp)⟩⟩ | exact ⟨⟨m9.cell ct1 (by simp), m9.cell dt1 (by simp)⟩, ⟨m9.cell ct2 (by simp), m9.cell dt2 (by simp)⟩⟩ | exact ⟨⟨m8.cell ct1 (by simp), m8.cell dt1 (by simp)⟩, ⟨m8.cell ct2 (by simp), m8.cell dt2 (by simp)⟩⟩ | exact ⟨⟨m7.cell ct1 (by simp), m7.cell dt1 (by simp)⟩, ⟨m7.cell ct2 (by simp), m7.cell dt2 (by simp)⟩⟩ | exact ⟨⟨m6.cell ct1 (by simp), m6.cell dt1 (by simp)⟩, ⟨m6.cell ct2 (by simp), m6.cell dt2 (by simp)⟩⟩ | exact ⟨⟨m5.cell ct1 (by simp), m5.cell dt1 (by simp)⟩, ⟨m5.cell ct2 (by simp), m5.cell dt2 (by simp)⟩⟩ | exact ⟨⟨((Kept.refl [] x4).drew).cell ct1 (by simp), ((Kept.refl [] x4).drew).cell dt1 (by simp)⟩, ⟨((Kept.refl [] x4).drew).cell ct2 (by simp), ((Kept.refl [] x4).drew).cell dt2 (by simp)⟩⟩)
  clear hK K
  try simp only [Act.put, List.getElem_toArray, List.getElem_cons_succ, List.getElem_cons_zero, List.setIfInBounds_toArray, List.set_cons_zero, List.set_cons_succ]
  refine wpAnyH_take (i := 19) (v := ?_) rfl (by kernel_rfl) (by kernel_rfl) (by kernel_rfl) (fun _ _ _ h => h) (Or.inl ⟨by rfl, ?_⟩) (by assumption) ?_
  rotate_left
  · (intro wq hSw; (try dsimp only at hSw); go_simp; try with_reducible rfl)
  try simp only [Act.put, List.getElem_toArray, List.getElem_cons_succ, List.getElem_cons_zero, List.setIfInBounds_toArray, List.set_cons_zero, List.set_cons_succ]
  refine wpAnyH_take (i := 20) (v := ?_) rfl (by kernel_rfl) (by kernel_rfl) (by kernel_rfl) (fun _ _ _ h => h) (Or.inl ⟨by rfl, ?_⟩) (by assumption) ?_
  rotate_left
  · (intro wq hSw; (try dsimp only at hSw); go_simp; try with_reducible rfl)
  try simp only [Act.put, List.getElem_toArray, List.getElem_cons_succ, List.getElem_cons_zero, List.setIfInBounds_toArray, List.set_cons_zero, List.set_cons_succ]
  refine wpAnyH_take (i := 21) (v := ?_) rfl (by kernel_rfl) (by kernel_rfl) (by kernel_rfl) (fun _ _ _ h => h) (Or.inl ⟨by rfl, ?_⟩) (by assumption) ?_
  rotate_left
  · (intro wq hSw; (try dsimp only at hSw); go_simp; try with_reducible rfl)
  try simp only [Act.put, List.getElem_toArray, List.getElem_cons_succ, List.getElem_cons_zero, List.setIfInBounds_toArray, List.set_cons_zero, List.set_cons_succ]
  refine wpAnyH_take (i := 22) (v := ?_) rfl (by kernel_rfl) (by kernel_rfl) (by kernel_rfl) (fun _ _ _ h => h) (Or.inl ⟨by rfl, ?_⟩) (by assumption) ?_
  rotate_left
  · (intro wq hSw; (try dsimp only at hSw); go_simp; try with_reducible rfl)
  try simp only [Act.put, List.getElem_toArray, List.getElem_cons_succ, List.getElem_cons_zero, List.setIfInBounds_toArray, List.set_cons_zero, List.set_cons_succ]
  refine wpAnyH_ready (rs := [23]) (by kernel_rfl) (by simp) ?_
  refine AllReadyH.cons rfl (fun K hK => ?_) AllReadyH.nil
  go_simp
  refine (at_any 3 0 _).mono ?_; rintro e x15 ⟨rfl, j15⟩; have k15 : Kept [] w x15 := k14.trans j15 (by simp); have m15 : Kept [] x4 x15 := m14.trans j15 (by simp)
  try go_wp2_with fail
  refine hK.out _ _ ?_ (fun hHeld => ?_)
  · (try dsimp only); (first | exact ⟨⟨m23.cell ct1 (by simp), m23.cell dt1 (by simp)⟩, ⟨m23.cell ct2 (by simp), m23.cell dt2 (by simp)⟩⟩ | exact ⟨⟨m22.cell ct1 (by simp), m22.cell dt1 (by simp)⟩, ⟨m22.cell ct2 (by simp), m22.cell dt2 (by simp)⟩⟩ | exact ⟨⟨m21.cell ct1 (by simp), m21.cell dt1 (by simp)⟩, ⟨m21.cell ct2 (by simp), m21.cell dt2 (by simp)⟩⟩ | exact ⟨⟨m20.cell ct1 (by simp), m20.cell dt1 (by simp)⟩, ⟨m20.cell ct2 (by simp), m20.cell dt2 (by simp)⟩⟩ | exact ⟨⟨m19.cell ct1 (by simp), m19.cell dt1 (by simp)⟩, ⟨m19.cell ct2 (by simp), m19.cell dt2 (by simp)⟩⟩ | exact ⟨⟨m18.cell ct1 (by simp), m18.cell dt1 (by simp)⟩, ⟨m18.cell ct2 (by simp), m18.cell dt2 (by simp)⟩⟩ | exact ⟨⟨m17.cell ct1 (by simp), m17.cell dt1 (by simp)⟩, ⟨m17.cell ct2 (by simp), m17.cell dt2 (by simp)⟩⟩ | exact ⟨⟨m16.cell ct1 (by simp), m16.cell dt1 (by simp)⟩, ⟨m16.cell ct2 (by simp), m16.cell dt2 (by simp)⟩⟩ | exact ⟨⟨m15.cell ct1 (by simp), m15.cell dt1 (by simp)⟩, ⟨m15.cell ct2 (by simp), m15.cell dt2 (by simp)⟩⟩ | exact ⟨⟨m14.cell ct1 (by simp), m14.cell dt1 (by simp)⟩, ⟨m14.cell ct2 (by simp), m14.cell dt2 (by simp)⟩⟩ | exact ⟨⟨m13.cell ct1 (by simp), m13.cell dt1 (by simp)⟩, ⟨m13.cell ct2 (by simp), m13.cell dt2 (by simp)⟩⟩ | exact ⟨⟨m12.cell ct1 (by simp), m12.cell dt1 (by simp)⟩, ⟨m12.cell ct2 (by simp), m12.cell dt2 (by simp)⟩⟩ | exact ⟨⟨m11.cell ct1 (by simp), m11.cell dt1 (by simp)⟩, ⟨m11.cell ct2 (by simp), m11.cell dt2 (by simp)⟩⟩ | exact ⟨⟨m10.cell ct1 (by simp), m10.cell dt1 (by simp)⟩, ⟨m10.cell ct2 (by simp), m10.cell dt2 (by simp)⟩⟩ | exact ⟨⟨m9.cell ct1 (by simp), m9.cell dt1 (by simp)⟩, ⟨m9.cell ct2 (by simp), m9.cell dt2 (by simp)⟩⟩ | exact ⟨⟨m8.cell ct1 (by simp), m8.cell dt1 (by simp)⟩, ⟨m8.cell ct2 (by simp), m8.cell dt2 (by simp)⟩⟩ | exact ⟨⟨m7.cell ct1 (by simp), m7.cell dt1 (by simp)⟩, ⟨m7.cell ct2 (by simp), m7.cell dt2 (by simp)⟩⟩ | exact ⟨⟨m6.cell ct1 (by simp), m6.cell dt1 (by simp)⟩, ⟨m6.cell ct2 (by simp), m6.cell dt2 (by simp)⟩⟩ | exact ⟨⟨m5.cell ct1 (by simp), m5.cell dt1 (by simp)⟩, ⟨m5.cell ct2 (by simp), m5.cell dt2 (by simp)⟩⟩ | exact ⟨⟨((Kept.refl [] x4).drew).cell ct1 (by simp), ((Kept.refl [] x4).drew).cell dt1 (by simp)⟩, ⟨((Kept.refl [] x4).drew).cell ct2 (by simp), ((Kept.refl [] x4).drew).cell dt2 (by simp)⟩⟩)
  clear hK K
  try simp only [Act.put, List.getElem_toArray, List.getElem_cons_succ, List.getElem_cons_zero, List.setIfInBounds_toArray, List.set_cons_zero, List.set_cons_succ]
  refine wpAnyH_take (i := 24) (v := ?_) rfl (by kernel_rfl) (by kernel_rfl) (by kernel_rfl) (fun _ _ _ h => h) (Or.inl ⟨by rfl, ?_⟩) (by assumption) ?_
  rotate_left
  · (intro wq hSw; (try dsimp only at hSw); go_simp; try with_reducible rfl)
  try simp only [Act.put, List.getElem_toArray, List.getElem_cons_succ, List.getElem_cons_zero, List.setIfInBounds_toArray, List.set_cons_zero, List.set_cons_succ]
  refine wpAnyH_take (i := 25) (v := ?_) rfl (by kernel_rfl) (by kernel_rfl) (by kernel_rfl) (fun _ _ _ h => h) (Or.inl ⟨by rfl, ?_⟩) (by assumption) ?_
  rotate_left
  · (intro wq hSw; (try dsimp only at hSw); go_simp; try with_reducible rfl)
  try simp only [Act.put, List.getElem_toArray, List.getElem_cons_succ, List.getElem_cons_zero, List.setIfInBounds_toArray, List.set_cons_zero, List.set_cons_succ]
  refine wpAnyH_take (i := 26) (v := ?_) rfl (by kernel_rfl) (by kernel_rfl) (by kernel_rfl) (fun _ _ _ h => h) (Or.inl ⟨by rfl, ?_⟩) (by assumption) ?_
  rotate_left
  · (intro wq hSw; (try dsimp only at hSw); go_simp; try with_reducible rfl)
  try simp only [Act.put, List.getElem_toArray, List.getElem_cons_succ, List.getElem_cons_zero, List.setIfInBounds_toArray, List.set_cons_zero, List.set_cons_succ]
  refine wpAnyH_ready (rs := [27]) (by kernel_rfl) (by simp) ?_
  refine AllReadyH.cons rfl (fun K hK => ?_) AllReadyH.nil
  go_simp
  refine (at_any 2 5 _).mono ?_; rintro e x16 ⟨rfl, j16⟩; have k16 : Kept [] w x16 := k15.trans j16 (by simp); have m16 : Kept [] x4 x16 := m15.trans j16 (by simp)
  try go_wp2_with fail
  refine hK.out _ _ ?_ (fun hHeld => ?_)
  · (try dsimp only); (first | exact ⟨⟨m23.cell ct1 (by simp), m23.cell dt1 (by simp)⟩, ⟨m23.cell ct2 (by simp), m23.cell dt2 (by simp)⟩⟩ | exact ⟨⟨m22.cell ct1 (by simp), m22.cell dt1 (by simp)⟩, ⟨m22.cell ct2 (by simp), m22.cell dt2 (by simp)⟩⟩ | exact ⟨⟨m21.cell ct1 (by simp), m21.cell dt1 (by simp)⟩, ⟨m21.cell ct2 (by simp), m21.cell dt2 (by simp)⟩⟩ | exact ⟨⟨m20.cell ct1 (by simp), m20.cell dt1 (by simp)⟩, ⟨m20.cell ct2 (by simp), m20.cell dt2 (by simp)⟩⟩ | exact ⟨⟨m19.cell ct1 (by simp), m19.cell dt1 (by simp)⟩, ⟨m19.cell ct2 (by simp), m19.cell dt2 (by simp)⟩⟩ | exact ⟨⟨m18.cell ct1 (by simp), m18.cell dt1 (by simp)⟩, ⟨m18.cell ct2 (by simp), m18.cell dt2 (by simp)⟩⟩ | exact ⟨⟨m17.cell ct1 (by simp), m17.cell dt1 (by simp)⟩, ⟨m17.cell ct2 (by simp), m17.cell dt2 (by simp)⟩⟩ | exact ⟨⟨m16.cell ct1 (by simp), m16.cell dt1 (by simp)⟩, ⟨m16.cell ct2 (by simp), m16.cell dt2 (by simp)⟩⟩ | exact ⟨⟨m15.cell ct1 (by simp), m15.cell dt1 (by simp)⟩, ⟨m15.cell ct2 (by simp), m15.cell dt2 (by simp)⟩⟩ | exact ⟨⟨m14.cell ct1 (by simp), m14.cell dt1 (by simp)⟩, ⟨m14.cell ct2 (by simp), m14.cell dt2 (by simp)⟩⟩ | exact ⟨⟨m13.cell ct1 (by simp), m13.cell dt1 (by simp)⟩, ⟨m13.cell ct2 (by simp), m13.cell dt2 (by simp)⟩⟩ | exact ⟨⟨m12.cell ct1 (by simp), m12.cell dt1 (by simp)⟩, ⟨m12.cell ct2 (by simp), m12.cell dt2 (by simp)⟩⟩ | exact ⟨⟨m11.cell ct1 (by simp), m11.cell dt1 (by simp)⟩, ⟨m11.cell ct2 (by simp), m11.cell dt2 (by simp)⟩⟩ | exact ⟨⟨m10.cell ct1 (by simp), m10.cell dt1 (by simp)⟩, ⟨m10.cell ct2 (by simp), m10.cell dt2 (by simp)⟩⟩ | exact ⟨⟨m9.cell ct1 (by simp), m9.cell dt1 (by simp)⟩, ⟨m9.cell ct2 (by simp), m9.cell dt2 (by simp)⟩⟩ | exact ⟨⟨m8.cell ct1 (by simp), m8.cell dt1 (by simp)⟩, ⟨m8.cell ct2 (by simp), m8.cell dt2 (by simp)⟩⟩ | exact ⟨⟨m7.cell ct1 (by simp), m7.cell dt1 (by simp)⟩, ⟨m7.cell ct2 (by simp), m7.cell dt2 (by simp)⟩⟩ | exact ⟨⟨m6.cell ct1 (by simp), m6.cell dt1 (by simp)⟩, ⟨m6.cell ct2 (by simp), m6.cell dt2 (by simp)⟩⟩ | exact ⟨⟨m5.cell ct1 (by simp), m5.cell dt1 (by simp)⟩, ⟨m5.cell ct2 (by simp), m5.cell dt2 (by simp)⟩⟩ | exact ⟨⟨((Kept.refl [] x4).drew).cell ct1 (by simp), ((Kept.refl [] x4).drew).cell dt1 (by simp)⟩, ⟨((Kept.refl [] x4).drew).cell ct2 (by simp), ((Kept.refl [] x4).drew).cell dt2 (by simp)⟩⟩)
  clear hK K
  try simp only [Act.put, List.getElem_toArray, List.getElem_cons_succ, List.getElem_cons_zero, List.setIfInBounds_toArray, List.set_cons_zero, List.set_cons_succ]
  refine wpAnyH_ready (rs := [28]) (by kernel_rfl) (by simp) ?_
  refine AllReadyH.cons rfl (fun K hK => ?_) AllReadyH.nil
  go_simp
  refine (at_any 2 5 _).mono ?_; rintro e x17 ⟨rfl, j17⟩; have k17 : Kept [] w x17 := k16.trans j17 (by simp); have m17 : Kept [] x4 x17 := m16.trans j17 (by simp)
  try go_wp2_with fail
  refine hK.out _ _ ?_ (fun hHeld => ?_)
  · (try dsimp only); (first | exact ⟨⟨m23.cell ct1 (by simp), m23.cell dt1 (by simp)⟩, ⟨m23.cell ct2 (by simp), m23.cell dt2 (by simp)⟩⟩ | exact ⟨⟨m22.cell ct1 (by simp), m22.cell dt1 (by simp)⟩, ⟨m22.cell ct2 (by simp), m22.cell dt2 (by simp)⟩⟩ | exact ⟨⟨m21.cell ct1 (by simp), m21.cell dt1 (by simp)⟩, ⟨m21.cell ct2 (by simp), m21.cell dt2 (by simp)⟩⟩ | exact ⟨⟨m20.cell ct1 (by simp), m20.cell dt1 (by simp)⟩, ⟨m20.cell ct2 (by simp), m20.cell dt2 (by simp)⟩⟩ | exact ⟨⟨m19.cell ct1 (by simp), m19.cell dt1 (by simp)⟩, ⟨m19.cell ct2 (by simp), m19.cell dt2 (by simp)⟩⟩ | exact ⟨⟨m18.cell ct1 (by simp), m18.cell dt1 (by simp)⟩, ⟨m18.cell ct2 (by simp), m18.cell dt2 (by simp)⟩⟩ | exact ⟨⟨m17.cell ct1 (by simp), m17.cell dt1 (by simp)⟩, ⟨m17.cell ct2 (by simp), m17.cell dt2 (by simp)⟩⟩ | exact ⟨⟨m16.cell ct1 (by simp), m16.cell dt1 (by simp)⟩, ⟨m16.cell ct2 (by simp), m16.cell dt2 (by simp)⟩⟩ | exact ⟨⟨m15.cell ct1 (by simp), m15.cell dt1 (by simp)⟩, ⟨m15.cell ct2 (by simp), m15.cell dt2 (by simp)⟩⟩ | exact ⟨⟨m14.cell ct1 (by simp), m14.cell dt1 (by simp)⟩, ⟨m14.cell ct2 (by simp), m14.cell dt2 (by simp)⟩⟩ | exact ⟨⟨m13.cell ct1 (by simp), m13.cell dt1 (by simp)⟩, ⟨m13.cell ct2 (by simp), m13.cell dt2 (by simp)⟩⟩ | exact ⟨⟨m12.cell ct1 (by simp), m12.cell dt1 (by simp)⟩, ⟨m12.cell ct2 (by simp), m12.cell dt2 (by simp)⟩⟩ | exact ⟨⟨m11.cell ct1 (by simp), m11.cell dt1 (by simp)⟩, ⟨m11.cell ct2 (by simp), m11.cell dt2 (by simp)⟩⟩ | exact ⟨⟨m10.cell ct1 (by simp), m10.cell dt1 (by simp)⟩, ⟨m10.cell ct2 (by simp), m10.cell dt2 (by simp)⟩⟩ | exact ⟨⟨m9.cell ct1 (by simp), m9.cell dt1 (by simp)⟩, ⟨m9.cell ct2 (by simp), m9.cell dt2 (by simp)⟩⟩ | exact ⟨⟨m8.cell ct1 (by simp), m8.cell dt1 (by simp)⟩, ⟨m8.cell ct2 (by simp), m8.cell dt2 (by simp)⟩⟩ | exact ⟨⟨m7.cell ct1 (by simp), m7.cell dt1 (by simp)⟩, ⟨m7.cell ct2 (by simp), m7.cell dt2 (by simp)⟩⟩ | exact ⟨⟨m6.cell ct1 (by simp), m6.cell dt1 (by simp)⟩, ⟨m6.cell ct2 (by simp), m6.cell dt2 (by simp)⟩⟩ | exact ⟨⟨m5.cell ct1 (by simp), m5.cell dt1 (by simp)⟩, ⟨m5.cell ct2 (by simp), m5.cell dt2 (by simp)⟩⟩ | exact ⟨⟨((Kept.refl [] x4).drew).cell ct1 (by simp), ((Kept.refl [] x4).drew).cell dt1 (by simp)⟩, ⟨((Kept.refl [] x4).drew).cell ct2 (by simp), ((Kept.refl [] x4).drew).cell dt2 (by simp)⟩⟩)
  clear hK K
  try simp only [Act.put, List.getElem_toArray, List.getElem_cons_succ, List.getElem_cons_zero, List.setIfInBounds_toArray, List.set_cons_zero, List.set_cons_succ]
  refine wpAnyH_ready (rs := [29]) (by kernel_rfl) (by simp) ?_
  refine AllReadyH.cons rfl (fun K hK => ?_) AllReadyH.nil
  go_simp
  refine (at_any 2 6 _).mono ?_; rintro e x18 ⟨rfl, j18⟩; have k18 : Kept [] w x18 := k17.trans j18 (by simp); have m18 : Kept [] x4 x18 := m17.trans j18 (by simp)
  try go_wp2_with fail
  refine hK.out _ _ ?_ (fun hHeld => ?_)
  · (try dsimp only); (first | exact ⟨⟨m23.cell ct1 (by simp), m23.cell dt1 (by simp)⟩, ⟨m23.cell ct2 (by simp), m23.cell dt2 (by simp)⟩⟩ | exact ⟨⟨m22.cell ct1 (by simp), m22.cell dt1 (by simp)⟩, ⟨m22.cell ct2 (by simp), m22.cell dt2 (by simp)⟩⟩ | exact ⟨⟨m21.cell ct1 (by simp), m21.cell dt1 (by simp)⟩, ⟨m21.cell ct2 (by simp), m21.cell dt2 (by simp)⟩⟩ | exact ⟨⟨m20.cell ct1 (by simp), m20.cell dt1 (by simp)⟩, ⟨m20.cell ct2 (by simp), m20.cell dt2 (by simp)⟩⟩ | exact ⟨⟨m19.cell ct1 (by simp), m19.cell dt1 (by simp)⟩, ⟨m19.cell ct2 (by simp), m19.cell dt2 (by simp)⟩⟩ | exact ⟨⟨m18.cell ct1 (by simp), m18.cell dt1 (by simp)⟩, ⟨m18.cell ct2 (by simp), m18.cell dt2 (by simp)⟩⟩ | exact ⟨⟨m17.cell ct1 (by simp), m17.cell dt1 (by simp)⟩, ⟨m17.cell ct2 (by simp), m17.cell dt2 (by simp)⟩⟩ | exact ⟨⟨m16.cell ct1 (by simp), m16.cell dt1 (by simp)⟩, ⟨m16.cell ct2 (by simp), m16.cell dt2 (by simp)⟩⟩ | exact ⟨⟨m15.cell ct1 (by simp), m15.cell dt1 (by simp)⟩, ⟨m15.cell ct2 (by simp), m15.cell dt2 (by simp)⟩⟩ | exact ⟨⟨m14.cell ct1 (by simp), m14.cell dt1 (by simp)⟩, ⟨m14.cell ct2 (by simp), m14.cell dt2 (by simp)⟩⟩ | exact ⟨⟨m13.cell ct1 (by simp), m13.cell dt1 (by simp)⟩, ⟨m13.cell ct2 (by simp), m13.cell dt2 (by simp)⟩⟩ | exact ⟨⟨m12.cell ct1 (by simp), m12.cell dt1 (by simp)⟩, ⟨m12.cell ct2 (by simp), m12.cell dt2 (by simp)⟩⟩ | exact ⟨⟨m11.cell ct1 (by simp), m11.cell dt1 (by simp)⟩, ⟨m11.cell ct2 (by simp), m11.cell dt2 (by simp)⟩⟩ | exact ⟨⟨m10.cell ct1 (by simp), m10.cell dt1 (by simp)⟩, ⟨m10.cell ct2 (by simp), m10.cell dt2 (by simp)⟩⟩ | exact ⟨⟨m9.cell ct1 (by simp), m9.cell dt1 (by simp)⟩, ⟨m9.cell ct2 (by simp), m9.cell dt2 (by simp)⟩⟩ | exact ⟨⟨m8.cell ct1 (by simp), m8.cell dt1 (by simp)⟩, ⟨m8.cell ct2 (by simp), m8.cell dt2 (by simp)⟩⟩ | exact ⟨⟨m7.cell ct1 (by simp), m7.cell dt1 (by simp)⟩, ⟨m7.cell ct2 (by simp), m7.cell dt2 (by simp)⟩⟩ | exact ⟨⟨m6.cell ct1 (by simp), m6.cell dt1 (by simp)⟩, ⟨m6.cell ct2 (by simp), m6.cell dt2 (by simp)⟩⟩ | exact ⟨⟨m5.cell ct1 (by simp), m5.cell dt1 (by simp)⟩, ⟨m5.cell ct2 (by simp), m5.cell dt2 (by simp)⟩⟩ | exact ⟨⟨((Kept.refl [] x4).drew).cell ct1 (by simp), ((Kept.refl [] x4).drew).cell dt1 (by simp)⟩, ⟨((Kept.refl [] x4).drew).cell ct2 (by simp), ((Kept.refl [] x4).drew).cell dt2 (by simp)⟩⟩)
  clear hK K
  try simp only [Act.put, List.getElem_toArray, List.getElem_cons_succ, List.getElem_cons_zero, List.setIfInBounds_toArray, List.set_cons_zero, List.set_cons_succ]
  refine wpAnyH_ready (rs := [30]) (by kernel_rfl) (by simp) ?_
  refine AllReadyH.cons rfl (fun K hK => ?_) AllReadyH.nil
  go_simp
  refine (Within_is ⟨2, 5⟩ ⟨2, 5⟩ ⟨2, 6⟩ true (by decide) _).mono ?_; rintro e x19 ⟨rfl, j19⟩; have k19 : Kept [] w x19 := k18.trans j19 (by simp); have m19 : Kept [] x4 x19 := m18.trans j19 (by simp)
  try go_wp2_with fail
  refine hK.out _ _ ?_ (fun hHeld => ?_)
  · (try dsimp only); (first | exact ⟨⟨m23.cell ct1 (by simp), m23.cell dt1 (by simp)⟩, ⟨m23.cell ct2 (by simp), m23.cell dt2 (by simp)⟩⟩ | exact ⟨⟨m22.cell ct1 (by simp), m22.cell dt1 (by simp)⟩, ⟨m22.cell ct2 (by simp), m22.cell dt2 (by simp)⟩⟩ | exact ⟨⟨m21.cell ct1 (by simp), m21.cell dt1 (by simp)⟩, ⟨m21.cell ct2 (by simp), m21.cell dt2 (by simp)⟩⟩ | exact ⟨⟨m20.cell ct1 (by simp), m20.cell dt1 (by simp)⟩, ⟨m20.cell ct2 (by simp), m20.cell dt2 (by simp)⟩⟩ | exact ⟨⟨m19.cell ct1 (by simp), m19.cell dt1 (by simp)⟩, ⟨m19.cell ct2 (by simp), m19.cell dt2 (by simp)⟩⟩ | exact ⟨⟨m18.cell ct1 (by simp), m18.cell dt1 (by simp)⟩, ⟨m18.cell ct2 (by simp), m18.cell dt2 (by simp)⟩⟩ | exact ⟨⟨m17.cell ct1 (by simp), m17.cell dt1 (by simp)⟩, ⟨m17.cell ct2 (by simp), m17.cell dt2 (by simp)⟩⟩ | exact ⟨⟨m16.cell ct1 (by simp), m16.cell dt1 (by simp)⟩, ⟨m16.cell ct2 (by simp), m16.cell dt2 (by simp)⟩⟩ | exact ⟨⟨m15.cell ct1 (by simp), m15.cell dt1 (by simp)⟩, ⟨m15.cell ct2 (by simp), m15.cell dt2 (by simp)⟩⟩ | exact ⟨⟨m14.cell ct1 (by simp), m14.cell dt1 (by simp)⟩, ⟨m14.cell ct2 (by simp), m14.cell dt2 (by simp)⟩⟩ | exact ⟨⟨m13.cell ct1 (by simp), m13.cell dt1 (by simp)⟩, ⟨m13.cell ct2 (by simp), m13.cell dt2 (by simp)⟩⟩ | exact ⟨⟨m12.cell ct1 (by simp), m12.cell dt1 (by simp)⟩, ⟨m12.cell ct2 (by simp), m12.cell dt2 (by simp)⟩⟩ | exact ⟨⟨m11.cell ct1 (by simp), m11.cell dt1 (by simp)⟩, ⟨m11.cell ct2 (by simp), m11.cell dt2 (by simp)⟩⟩ | exact ⟨⟨m10.cell ct1 (by simp), m10.cell dt1 (by simp)⟩, ⟨m10.cell ct2 (by simp), m10.cell dt2 (by simp)⟩⟩ | exact ⟨⟨m9.cell ct1 (by simp), m9.cell dt1 (by simp)⟩, ⟨m9.cell ct2 (by simp), m9.cell dt2 (by simp)⟩⟩ | exact ⟨⟨m8.cell ct1 (by simp), m8.cell dt1 (by simp)⟩, ⟨m8.cell ct2 (by simp), m8.cell dt2 (by simp)⟩⟩ | exact ⟨⟨m7.cell ct1 (by simp), m7.cell dt1 (by simp)⟩, ⟨m7.cell ct2 (by simp), m7.cell dt2 (by simp)⟩⟩ | exact ⟨⟨m6.cell ct1 (by simp), m6.cell dt1 (by simp)⟩, ⟨m6.cell ct2 (by simp), m6.cell dt2 (by simp)⟩⟩ | exact ⟨⟨m5.cell ct1 (by simp), m5.cell dt1 (by simp)⟩, ⟨m5.cell ct2 (by simp), m5.cell dt2 (by simp)⟩⟩ | exact ⟨⟨((Kept.refl [] x4).drew).cell ct1 (by simp), ((Kept.refl [] x4).drew).cell dt1 (by simp)⟩, ⟨((Kept.refl [] x4).drew).cell ct2 (by simp), ((Kept.refl [] x4).drew).cell dt2 (by simp)⟩⟩)
  clear hK K
  try simp only [Act.put, List.getElem_toArray, List.getElem_cons_succ, List.getElem_cons_zero, List.setIfInBounds_toArray, List.set_cons_zero, List.set_cons_succ]
  refine wpAnyH_take (i := 31) (v := ?_) rfl (by kernel_rfl) (by kernel_rfl) (by kernel_rfl) (fun _ _ _ h => h) (Or.inl ⟨by rfl, ?_⟩) (by assumption) ?_
  rotate_left
  · (intro wq hSw; (try dsimp only at hSw); go_simp; try with_reducible rfl)
  try simp only [Act.put, List.getElem_toArray, List.getElem_cons_succ, List.getElem_cons_zero, List.setIfInBounds_toArray, List.set_cons_zero, List.set_cons_succ]
  refine wpAnyH_take (i := 32) (v := ?_) rfl (by kernel_rfl) (by kernel_rfl) (by kernel_rfl) (fun _ _ _ h => h) (Or.inl ⟨by rfl, ?_⟩) (by assumption) ?_
  rotate_left
  · (intro wq hSw; (try dsimp only at hSw); go_simp; try with_reducible rfl)
  try simp only [Act.put, List.getElem_toArray, List.getElem_cons_succ, List.getElem_cons_zero, List.setIfInBounds_toArray, List.set_cons_zero, List.set_cons_succ]
  refine wpAnyH_take (i := 33) (v := ?_) rfl (by kernel_rfl) (by kernel_rfl) (by kernel_rfl) (fun _ _ _ h => h) (Or.inl ⟨by rfl, ?_⟩) (by assumption) ?_
  rotate_left
  · (intro wq hSw; (try dsimp only at hSw); go_simp; try with_reducible rfl)
  try simp only [Act.put, List.getElem_toArray, List.getElem_cons_succ, List.getElem_cons_zero, List.setIfInBounds_toArray, List.set_cons_zero, List.set_cons_succ]
  refine wpAnyH_ready (rs := [34]) (by kernel_rfl) (by simp) ?_
  refine AllReadyH.cons rfl (fun K hK => ?_) AllReadyH.nil
  go_simp
  refine (at_any 2 6 _).mono ?_; rintro e x20 ⟨rfl, j20⟩; have k20 : Kept [] w x20 := k19.trans j20 (by simp); have m20 : Kept [] x4 x20 := m19.trans j20 (by simp)
  try go_wp2_with fail
  refine hK.out _ _ ?_ (fun hHeld => ?_)
  · (try dsimp only); (first | exact ⟨⟨m23.cell ct1 (by simp), m23.cell dt1 (by simp)⟩, ⟨m23.cell ct2 (by simp), m23.cell dt2 (by simp)⟩⟩ | exact ⟨⟨m22.cell ct1 (by simp), m22.cell dt1 (by simp)⟩, ⟨m22.cell ct2 (by simp), m22.cell dt2 (by simp)⟩⟩ | exact ⟨⟨m21.cell ct1 (by simp), m21.cell dt1 (by simp)⟩, ⟨m21.cell ct2 (by simp), m21.cell dt2 (by simp)⟩⟩ | exact ⟨⟨m20.cell ct1 (by simp), m20.cell dt1 (by simp)⟩, ⟨m20.cell ct2 (by simp), m20.cell dt2 (by simp)⟩⟩ | exact ⟨⟨m19.cell ct1 (by simp), m19.cell dt1 (by simp)⟩, ⟨m19.cell ct2 (by simp), m19.cell dt2 (by simp)⟩⟩ | exact ⟨⟨m18.cell ct1 (by simp), m18.cell dt1 (by simp)⟩, ⟨m18.cell ct2 (by simp), m18.cell dt2 (by simp)⟩⟩ | exact ⟨⟨m17.cell ct1 (by simp), m17.cell dt1 (by simp)⟩, ⟨m17.cell ct2 (by simp), m17.cell dt2 (by simp)⟩⟩ | exact ⟨⟨m16.cell ct1 (by simp), m16.cell dt1 (by simp)⟩, ⟨m16.cell ct2 (by simp), m16.cell dt2 (by simp)⟩⟩ | exact ⟨⟨m15.cell ct1 (by simp), m15.cell dt1 (by simp)⟩, ⟨m15.cell ct2 (by simp), m15.cell dt2 (by simp)⟩⟩ | exact ⟨⟨m14.cell ct1 (by simp), m14.cell dt1 (by simp)⟩, ⟨m14.cell ct2 (by simp), m14.cell dt2 (by simp)⟩⟩ | exact ⟨⟨m13.cell ct1 (by simp), m13.cell dt1 (by simp)⟩, ⟨m13.cell ct2 (by simp), m13.cell dt2 (by simp)⟩⟩ | exact ⟨⟨m12.cell ct1 (by simp), m12.cell dt1 (by simp)⟩, ⟨m12.cell ct2 (by simp), m12.cell dt2 (by simp)⟩⟩ | exact ⟨⟨m11.cell ct1 (by simp), m11.cell dt1 (by simp)⟩, ⟨m11.cell ct2 (by simp), m11.cell dt2 (by simp)⟩⟩ | exact ⟨⟨m10.cell ct1 (by simp), m10.cell dt1 (by simp)⟩, ⟨m10.cell ct2 (by simp), m10.cell dt2 (by simp)⟩⟩ | exact ⟨⟨m9.cell ct1 (by simp), m9.cell dt1 (by simp)⟩, ⟨m9.cell ct2 (by simp), m9.cell dt2 (by simp)⟩⟩ | exact ⟨⟨m8.cell ct1 (by simp), m8.cell dt1 (by simp)⟩, ⟨m8.cell ct2 (by simp), m8.cell dt2 (by simp)⟩⟩ | exact ⟨⟨m7.cell ct1 (by simp), m7.cell dt1 (by simp)⟩, ⟨m7.cell ct2 (by simp), m7.cell dt2 (by simp)⟩⟩ | exact ⟨⟨m6.cell ct1 (by simp), m6.cell dt1 (by simp)⟩, ⟨m6.cell ct2 (by simp), m6.cell dt2 (by simp)⟩⟩ | exact ⟨⟨m5.cell ct1 (by simp), m5.cell dt1 (by simp)⟩, ⟨m5.cell ct2 (by simp), m5.cell dt2 (by simp)⟩⟩ | exact ⟨⟨((Kept.refl [] x4).drew).cell ct1 (by simp), ((Kept.refl [] x4).drew).cell dt1 (by simp)⟩, ⟨((Kept.refl [] x4).drew).cell ct2 (by simp), ((Kept.refl [] x4).drew).cell dt2 (by simp)⟩⟩)
  clear hK K
  try simp only [Act.put, List.getElem_toArray, List.getElem_cons_succ, List.getElem_cons_zero, List.setIfInBounds_toArray, List.set_cons_zero, List.set_cons_succ]
  refine wpAnyH_ready (rs := [35]) (by kernel_rfl) (by simp) ?_
  refine AllReadyH.cons rfl (fun K hK => ?_) AllReadyH.nil
  go_simp
  refine (at_any 2 5 _).mono ?_; rintro e x21 ⟨rfl, j21⟩; have k21 : Kept [] w x21 := k20.trans j21 (by simp); have m21 : Kept [] x4 x21 := m20.trans j21 (by simp)
  try go_wp2_with fail
  refine hK.out _ _ ?_ (fun hHeld => ?_)
  · (try dsimp only); (first | exact ⟨⟨m23.cell ct1 (by simp), m23.cell dt1 (by simp)⟩, ⟨m23.cell ct2 (by simp), m23.cell dt2 (by simp)⟩⟩ | exact ⟨⟨m22.cell ct1 (by simp), m22.cell dt1 (by simp)⟩, ⟨m22.cell ct2 (by simp), m22.cell dt2 (by simp)⟩⟩ | exact ⟨⟨m21.cell ct1 (by simp), m21.cell dt1 (by simp)⟩, ⟨m21.cell ct2 (by simp), m21.cell dt2 (by simp)⟩⟩ | exact ⟨⟨m20.cell ct1 (by simp), m20.cell dt1 (by simp)⟩, ⟨m20.cell ct2 (by simp), m20.cell dt2 (by simp)⟩⟩ | exact ⟨⟨m19.cell ct1 (by simp), m19.cell dt1 (by simp)⟩, ⟨m19.cell ct2 (by simp), m19.cell dt2 (by simp)⟩⟩ | exact ⟨⟨m18.cell ct1 (by simp), m18.cell dt1 (by simp)⟩, ⟨m18.cell ct2 (by simp), m18.cell dt2 (by simp)⟩⟩ | exact ⟨⟨m17.cell ct1 (by simp), m17.cell dt1 (by simp)⟩, ⟨m17.cell ct2 (by simp), m17.cell dt2 (by simp)⟩⟩ | exact ⟨⟨m16.cell ct1 (by simp), m16.cell dt1 (by simp)⟩, ⟨m16.cell ct2 (by simp), m16.cell dt2 (by simp)⟩⟩ | exact ⟨⟨m15.cell ct1 (by simp), m15.cell dt1 (by simp)⟩, ⟨m15.cell ct2 (by simp), m15.cell dt2 (by simp)⟩⟩ | exact ⟨⟨m14.cell ct1 (by simp), m14.cell dt1 (by simp)⟩, ⟨m14.cell ct2 (by simp), m14.cell dt2 (by simp)⟩⟩ | exact ⟨⟨m13.cell ct1 (by simp), m13.cell dt1 (by simp)⟩, ⟨m13.cell ct2 (by simp), m13.cell dt2 (by simp)⟩⟩ | exact ⟨⟨m12.cell ct1 (by simp), m12.cell dt1 (by simp)⟩, ⟨m12.cell ct2 (by simp), m12.cell dt2 (by simp)⟩⟩ | exact ⟨⟨m11.cell ct1 (by simp), m11.cell dt1 (by simp)⟩, ⟨m11.cell ct2 (by simp), m11.cell dt2 (by simp)⟩⟩ | exact ⟨⟨m10.cell ct1 (by simp), m10.cell dt1 (by simp)⟩, ⟨m10.cell ct2 (by simp), m10.cell dt2 (by simp)⟩⟩ | exact ⟨⟨m9.cell ct1 (by simp), m9.cell dt1 (by simp)⟩, ⟨m9.cell ct2 (by simp), m9.cell dt2 (by simp)⟩⟩ | exact ⟨⟨m8.cell ct1 (by simp), m8.cell dt1 (by simp)⟩, ⟨m8.cell ct2 (by simp), m8.cell dt2 (by simp)⟩⟩ | exact ⟨⟨m7.cell ct1 (by simp), m7.cell dt1 (by simp)⟩, ⟨m7.cell ct2 (by simp), m7.cell dt2 (by simp)⟩⟩ | exact ⟨⟨m6.cell ct1 (by simp), m6.cell dt1 (by simp)⟩, ⟨m6.cell ct2 (by simp), m6.cell dt2 (by simp)⟩⟩ | exact ⟨⟨m5.cell ct1 (by simp), m5.cell dt1 (by simp)⟩, ⟨m5.cell ct2 (by simp), m5.cell dt2 (by simp)⟩⟩ | exact ⟨⟨((Kept.refl [] x4).drew).cell ct1 (by simp), ((Kept.refl [] x4).drew).cell dt1 (by simp)⟩, ⟨((Kept.refl [] x4).drew).cell ct2 (by simp), ((Kept.refl [] x4).drew).cell dt2 (by simp)⟩⟩)
  clear hK K
  try simp only [Act.put, List.getElem_toArray, List.getElem_cons_succ, List.getElem_cons_zero, List.setIfInBounds_toArray, List.set_cons_zero, List.set_cons_succ]
  refine wpAnyH_ready (rs := [36]) (by kernel_rfl) (by simp) ?_
  refine AllReadyH.cons rfl (fun K hK => ?_) AllReadyH.nil
  go_simp
  refine (at_any 2 6 _).mono ?_; rintro e x22 ⟨rfl, j22⟩; have k22 : Kept [] w x22 := k21.trans j22 (by simp); have m22 : Kept [] x4 x22 := m21.trans j22 (by simp)
  try go_wp2_with fail
  refine hK.out _ _ ?_ (fun hHeld => ?_)
  · (try dsimp only); (first | exact ⟨⟨m23.cell ct1 (by simp), m23.cell dt1 (by simp)⟩, ⟨m23.cell ct2 (by simp), m23.cell dt2 (by simp)⟩⟩ | exact ⟨⟨m22.cell ct1 (by simp), m22.cell dt1 (by simp)⟩, ⟨m22.cell ct2 (by simp), m22.cell dt2 (by simp)⟩⟩ | exact ⟨⟨m21.cell ct1 (by simp), m21.cell dt1 (by simp)⟩, ⟨m21.cell ct2 (by simp), m21.cell dt2 (by simp)⟩⟩ | exact ⟨⟨m20.cell ct1 (by simp), m20.cell dt1 (by simp)⟩, ⟨m20.cell ct2 (by simp), m20.cell dt2 (by simp)⟩⟩ | exact ⟨⟨m19.cell ct1 (by simp), m19.cell dt1 (by simp)⟩, ⟨m19.cell ct2 (by simp), m19.cell dt2 (by simp)⟩⟩ | exact ⟨⟨m18.cell ct1 (by simp), m18.cell dt1 (by simp)⟩, ⟨m18.cell ct2 (by simp), m18.cell dt2 (by simp)⟩⟩ | exact ⟨⟨m17.cell ct1 (by simp), m17.cell dt1 (by simp)⟩, ⟨m17.cell ct2 (by simp), m17.cell dt2 (by simp)⟩⟩ | exact ⟨⟨m16.cell ct1 (by simp), m16.cell dt1 (by simp)⟩, ⟨m16.cell ct2 (by simp), m16.cell dt2 (by simp)⟩⟩ | exact ⟨⟨m15.cell ct1 (by simp), m15.cell dt1 (by simp)⟩, ⟨m15.cell ct2 (by simp), m15.cell dt2 (by simp)⟩⟩ | exact ⟨⟨m14.cell ct1 (by simp), m14.cell dt1 (by simp)⟩, ⟨m14.cell ct2 (by simp), m14.cell dt2 (by simp)⟩⟩ | exact ⟨⟨m13.cell ct1 (by simp), m13.cell dt1 (by simp)⟩, ⟨m13.cell ct2 (by simp), m13.cell dt2 (by simp)⟩⟩ | exact ⟨⟨m12.cell ct1 (by simp), m12.cell dt1 (by simp)⟩, ⟨m12.cell ct2 (by simp), m12.cell dt2 (by simp)⟩⟩ | exact ⟨⟨m11.cell ct1 (by simp), m11.cell dt1 (by simp)⟩, ⟨m11.cell ct2 (by simp), m11.cell dt2 (by simp)⟩⟩ | exact ⟨⟨m10.cell ct1 (by simp), m10.cell dt1 (by simp)⟩, ⟨m10.cell ct2 (by simp), m10.cell dt2 (by simp)⟩⟩ | exact ⟨⟨m9.cell ct1 (by simp), m9.cell dt1 (by simp)⟩, ⟨m9.cell ct2 (by simp), m9.cell dt2 (by simp)⟩⟩ | exact ⟨⟨m8.cell ct1 (by simp), m8.cell dt1 (by simp)⟩, ⟨m8.cell ct2 (by simp), m8.cell dt2 (by simp)⟩⟩ | exact ⟨⟨m7.cell ct1 (by simp), m7.cell dt1 (by simp)⟩, ⟨m7.cell ct2 (by simp), m7.cell dt2 (by simp)⟩⟩ | exact ⟨⟨m6.cell ct1 (by simp), m6.cell dt1 (by simp)⟩, ⟨m6.cell ct2 (by simp), m6.cell dt2 (by simp)⟩⟩ | exact ⟨⟨m5.cell ct1 (by simp), m5.cell dt1 (by simp)⟩, ⟨m5.cell ct2 (by simp), m5.cell dt2 (by simp)⟩⟩ | exact ⟨⟨((Kept.refl [] x4).drew).cell ct1 (by simp), ((Kept.refl [] x4).drew).cell dt1 (by simp)⟩, ⟨((Kept.refl [] x4).drew).cell ct2 (by simp), ((Kept.refl [] x4).drew).cell dt2 (by simp)⟩⟩)
  clear hK K
  try simp only [Act.put, List.getElem_toArray, List.getElem_cons_succ, List.getElem_cons_zero, List.setIfInBounds_toArray, List.set_cons_zero, List.set_cons_succ]
  refine wpAnyH_ready (rs := [37]) (by kernel_rfl) (by simp) ?_
  refine AllReadyH.cons rfl (fun K hK => ?_) AllReadyH.nil
  go_simp
  refine (Within_is ⟨2, 6⟩ ⟨2, 5⟩ ⟨2, 6⟩ false (by decide) _).mono ?_; rintro e x23 ⟨rfl, j23⟩; have k23 : Kept [] w x23 := k22.trans j23 (by simp); have m23 : Kept [] x4 x23 := m22.trans j23 (by simp)
  try go_wp2_with fail
  refine hK.out _ _ ?_ (fun hHeld => ?_)
  · (try dsimp only); (first | exact ⟨⟨m23.cell ct1 (by simp), m23.cell dt1 (by simp)⟩, ⟨m23.cell ct2 (by simp), m23.cell dt2 (by simp)⟩⟩ | exact ⟨⟨m22.cell ct1 (by simp), m22.cell dt1 (by simp)⟩, ⟨m22.cell ct2 (by simp), m22.cell dt2 (by simp)⟩⟩ | exact ⟨⟨m21.cell ct1 (by simp), m21.cell dt1 (by simp)⟩, ⟨m21.cell ct2 (by simp), m21.cell dt2 (by simp)⟩⟩ | exact ⟨⟨m20.cell ct1 (by simp), m20.cell dt1 (by simp)⟩, ⟨m20.cell ct2 (by simp), m20.cell dt2 (by simp)⟩⟩ | exact ⟨⟨m19.cell ct1 (by simp), m19.cell dt1 (by simp)⟩, ⟨m19.cell ct2 (by simp), m19.cell dt2 (by simp)⟩⟩ | exact ⟨⟨m18.cell ct1 (by simp), m18.cell dt1 (by simp)⟩, ⟨m18.cell ct2 (by simp), m18.cell dt2 (by simp)⟩⟩ | exact ⟨⟨m17.cell ct1 (by simp), m17.cell dt1 (by simp)⟩, ⟨m17.cell ct2 (by simp), m17.cell dt2 (by simp)⟩⟩ | exact ⟨⟨m16.cell ct1 (by simp), m16.cell dt1 (by simp)⟩, ⟨m16.cell ct2 (by simp), m16.cell dt2 (by simp)⟩⟩ | exact ⟨⟨m15.cell ct1 (by simp), m15.cell dt1 (by simp)⟩, ⟨m15.cell ct2 (by simp), m15.cell dt2 (by simp)⟩⟩ | exact ⟨⟨m14.cell ct1 (by simp), m14.cell dt1 (by simp)⟩, ⟨m14.cell ct2 (by simp), m14.cell dt2 (by simp)⟩⟩ | exact ⟨⟨m13.cell ct1 (by simp), m13.cell dt1 (by simp)⟩, ⟨m13.cell ct2 (by simp), m13.cell dt2 (by simp)⟩⟩ | exact ⟨⟨m12.cell ct1 (by simp), m12.cell dt1 (by simp)⟩, ⟨m12.cell ct2 (by simp), m12.cell dt2 (by simp)⟩⟩ | exact ⟨⟨m11.cell ct1 (by simp), m11.cell dt1 (by simp)⟩, ⟨m11.cell ct2 (by simp), m11.cell dt2 (by simp)⟩⟩ | exact ⟨⟨m10.cell ct1 (by simp), m10.cell dt1 (by simp)⟩, ⟨m10.cell ct2 (by simp), m10.cell dt2 (by simp)⟩⟩ | exact ⟨⟨m9.cell ct1 (by simp), m9.cell dt1 (by simp)⟩, ⟨m9.cell ct2 (by simp), m9.cell dt2 (by simp)⟩⟩ | exact ⟨⟨m8.cell ct1 (by simp), m8.cell dt1 (by simp)⟩, ⟨m8.cell ct2 (by simp), m8.cell dt2 (by simp)⟩⟩ | exact ⟨⟨m7.cell ct1 (by simp), m7.cell dt1 (by simp)⟩, ⟨m7.cell ct2 (by simp), m7.cell dt2 (by simp)⟩⟩ | exact ⟨⟨m6.cell ct1 (by simp), m6.cell dt1 (by simp)⟩, ⟨m6.cell ct2 (by simp), m6.cell dt2 (by simp)⟩⟩ | exact ⟨⟨m5.cell ct1 (by simp), m5.cell dt1 (by simp)⟩, ⟨m5.cell ct2 (by simp), m5.cell dt2 (by simp)⟩⟩ | exact ⟨⟨((Kept.refl [] x4).drew).cell ct1 (by simp), ((Kept.refl [] x4).drew).cell dt1 (by simp)⟩, ⟨((Kept.refl [] x4).drew).cell ct2 (by simp), ((Kept.refl [] x4).drew).cell dt2 (by simp)⟩⟩)
  clear hK K
  try simp only [Act.put, List.getElem_toArray, List.getElem_cons_succ, List.getElem_cons_zero, List.setIfInBounds_toArray, List.set_cons_zero, List.set_cons_succ]
  refine wpAnyH_take (i := 38) (v := ?_) rfl (by kernel_rfl) (by kernel_rfl) (by kernel_rfl) (fun _ _ _ h => h) (Or.inl ⟨by rfl, ?_⟩) (by assumption) ?_
  rotate_left
  · (intro wq hSw; (try dsimp only at hSw); go_simp; try with_reducible rfl)
  try simp only [Act.put, List.getElem_toArray, List.getElem_cons_succ, List.getElem_cons_zero, List.setIfInBounds_toArray, List.set_cons_zero, List.set_cons_succ]
  refine wpAnyH_done (by kernel_rfl) ?_ _
  replace bt1 := bt1.kept m23 (by simp)
  replace bt2 := bt2.kept m23 (by simp)
  clear m5 m6 m7 m8 m9 m10 m11 m12 m13 m14 m15 m16 m17 m18 m19 m20 m21 m22 m23 j5 j6 j7 j8 j9 j10 j11 j12 j13 j14 j15 j16 j17 j18 j19 j20 j21 j22 j23
  clear ct1 dt1 lt1
  have ct1 := bt1.c0
  have dt1 := bt1.c1
  simp only at ct1 dt1
  have lt1 := bt1.lt
  clear ct2 dt2 lt2
  have ct2 := bt2.c0
  have dt2 := bt2.c1
  simp only at ct2 dt2
  have lt2 := bt2.lt
  go_wp2_with fail
  refine (at_any 0 0 _).mono ?_
  rintro e x24 ⟨rfl, j24⟩
  have k24 : Kept [] w x24 := k23.trans j24 (by simp)
  replace bt1 := bt1.kept j24 (by simp)
  have ct1 := bt1.c0
  have dt1 := bt1.c1
  simp only at ct1 dt1
  have lt1 := bt1.lt
  replace bt2 := bt2.kept j24 (by simp)
  have ct2 := bt2.c0
  have dt2 := bt2.c1
  simp only at ct2 dt2
  have lt2 := bt2.lt
  clear j24
  go_upto_region 5 with fail
  obtain ⟨x25, hx25⟩ : ∃ z : World, z = (x24.alloc (.cells #[.int .i64 0, .int .i64 0] 49)) := ⟨_, rfl⟩
  have k25 : Kept [] w x25 := by rw [hx25]; exact (k24).alloc _
  have bt3 : PlB x25 (x24.heap.size) ⟨0, 0⟩ := by rw [hx25]; exact PlB.newAt _ ⟨0, 0⟩ (by simp)
  rw [← hx25]
  clear hx25
  have ct3 := bt3.c0
  have dt3 := bt3.c1
  simp only at ct3 dt3
  have lt3 := bt3.lt
  generalize x24.heap.size = g25 at *
  go_wp2_with fail
  refine (at_any 1 7 _).mono ?_
  rintro e x26 ⟨rfl, j26⟩
  have k26 : Kept [] w x26 := k25.trans j26 (by simp)
  replace bt3 := bt3.kept j26 (by simp)
  have ct3 := bt3.c0
  have dt3 := bt3.c1
  simp only at ct3 dt3
  have lt3 := bt3.lt
  clear j26
  go_wp2_with fail
  refine (at_any 2 0 _).mono ?_
  rintro e x27 ⟨rfl, j27⟩
  have k27 : Kept [] w x27 := k26.trans j27 (by simp)
  replace bt3 := bt3.kept j27 (by simp)
  have ct3 := bt3.c0
  have dt3 := bt3.c1
  simp only at ct3 dt3
  have lt3 := bt3.lt
  clear j27
  go_wp2_with fail
  refine (clamps_any ⟨1, 7⟩ 2 5 4 ⟨2, 0⟩ 0 true (by decide) _).mono ?_
  rintro e x28 ⟨rfl, j28⟩
  have k28 : Kept [] w x28 := k27.trans j28 (by simp)
  replace bt3 := bt3.kept j28 (by simp)
  have ct3 := bt3.c0
  have dt3 := bt3.c1
  simp only at ct3 dt3
  have lt3 := bt3.lt
  clear j28
  go_wp2_with fail
  refine (at_any 3 7 _).mono ?_
  rintro e x29 ⟨rfl, j29⟩
  have k29 : Kept [] w x29 := k28.trans j29 (by simp)
  replace bt3 := bt3.kept j29 (by simp)
  have ct3 := bt3.c0
  have dt3 := bt3.c1
  simp only at ct3 dt3
  have lt3 := bt3.lt
  clear j29
  go_wp2_with fail
  refine (at_any 3 3 _).mono ?_
  rintro e x30 ⟨rfl, j30⟩
  have k30 : Kept [] w x30 := k29.trans j30 (by simp)
  replace bt3 := bt3.kept j30 (by simp)
  have ct3 := bt3.c0
  have dt3 := bt3.c1
  simp only at ct3 dt3
  have lt3 := bt3.lt
  clear j30
  go_wp2_with fail
  refine (clamps_any ⟨3, 7⟩ 2 5 4 ⟨3, 3⟩ 0 true (by decide) _).mono ?_
  rintro e x31 ⟨rfl, j31⟩
  have k31 : Kept [] w x31 := k30.trans j31 (by simp)
  replace bt3 := bt3.kept j31 (by simp)
  have ct3 := bt3.c0
  have dt3 := bt3.c1
  simp only at ct3 dt3
  have lt3 := bt3.lt
  clear j31
  go_wp2_with fail
  refine (at_any 5 0 _).mono ?_
  rintro e x32 ⟨rfl, j32⟩
  have k32 : Kept [] w x32 := k31.trans j32 (by simp)
  replace bt3 := bt3.kept j32 (by simp)
  have ct3 := bt3.c0
  have dt3 := bt3.c1
  simp only at ct3 dt3
  have lt3 := bt3.lt
  clear j32
  go_wp2_with fail
  refine (at_any 4 3 _).mono ?_
  rintro e x33 ⟨rfl, j33⟩
  have k33 : Kept [] w x33 := k32.trans j33 (by simp)
  replace bt3 := bt3.kept j33 (by simp)
  have ct3 := bt3.c0
  have dt3 := bt3.c1
  simp only at ct3 dt3
  have lt3 := bt3.lt
  clear j33
  go_wp2_with fail
  refine (clamps_any ⟨5, 0⟩ 2 5 4 ⟨4, 3⟩ 0 true (by decide) _).mono ?_
  rintro e x34 ⟨rfl, j34⟩
  have k34 : Kept [] w x34 := k33.trans j34 (by simp)
  replace bt3 := bt3.kept j34 (by simp)
  have ct3 := bt3.c0
  have dt3 := bt3.c1
  simp only at ct3 dt3
  have lt3 := bt3.lt
  clear j34
  go_wp2_with fail
  refine (at_any 3 (-1) _).mono ?_
  rintro e x35 ⟨rfl, j35⟩
  have k35 : Kept [] w x35 := k34.trans j35 (by simp)
  replace bt3 := bt3.kept j35 (by simp)
  have ct3 := bt3.c0
  have dt3 := bt3.c1
  simp only at ct3 dt3
  have lt3 := bt3.lt
  clear j35
  go_wp2_with fail
  refine (at_any 3 0 _).mono ?_
  rintro e x36 ⟨rfl, j36⟩
  have k36 : Kept [] w x36 := k35.trans j36 (by simp)
  replace bt3 := bt3.kept j36 (by simp)
  have ct3 := bt3.c0
  have dt3 := bt3.c1
  simp only at ct3 dt3
  have lt3 := bt3.lt
  clear j36
  go_wp2_with fail
  refine (clamps_any ⟨3, (-1)⟩ 2 5 4 ⟨3, 0⟩ 0 true (by decide) _).mono ?_
  rintro e x37 ⟨rfl, j37⟩
  have k37 : Kept [] w x37 := k36.trans j37 (by simp)
  replace bt3 := bt3.kept j37 (by simp)
  have ct3 := bt3.c0
  have dt3 := bt3.c1
  simp only at ct3 dt3
  have lt3 := bt3.lt
  clear j37
  go_wp2_with fail
  refine (clamps_any ⟨0, 0⟩ 2 2 4 ⟨0, 0⟩ 2 true (by decide) _).mono ?_
  rintro e x38 ⟨rfl, j38⟩
  have k38 : Kept [] w x38 := k37.trans j38 (by simp)
  replace bt3 := bt3.kept j38 (by simp)
  have ct3 := bt3.c0
  have dt3 := bt3.c1
  simp only at ct3 dt3
  have lt3 := bt3.lt
  clear j38
  go_wp2_with fail
  refine (clamps_any ⟨0, 0⟩ 0 1 0 ⟨0, 0⟩ 2 true (by decide) _).mono ?_
  rintro e x39 ⟨rfl, j39⟩
  have k39 : Kept [] w x39 := k38.trans j39 (by simp)
  replace bt3 := bt3.kept j39 (by simp)
  have ct3 := bt3.c0
  have dt3 := bt3.c1
  simp only at ct3 dt3
  have lt3 := bt3.lt
  clear j39
  go_upto_region 7 with fail
  refine wp_region_held_drew (S := (fun w1 => (w1.cell? ⟨g25, 0, none⟩ = some (.int .i64 0) ∧ w1.cell? ⟨g25, 1, none⟩ = some (.int .i64 0)))) (by kernel_rfl) ?_ (fun hHeld => ?_)
  · (try dsimp only); (first | exact ⟨m52.cell ct3 (by simp), m52.cell dt3 (by simp)⟩ | exact ⟨m51.cell ct3 (by simp), m51.cell dt3 (by simp)⟩ | exact ⟨m50.cell ct3 (by simp), m50.cell dt3 (by simp)⟩ | exact ⟨m49.cell ct3 (by simp), m49.cell dt3 (by simp)⟩ | exact ⟨m48.cell ct3 (by simp), m48.cell dt3 (by simp)⟩ | exact ⟨m47.cell ct3 (by simp), m47.cell dt3 (by simp)⟩ | exact ⟨m46.cell ct3 (by simp), m46.cell dt3 (by simp)⟩ | exact ⟨m45.cell ct3 (by simp), m45.cell dt3 (by simp)⟩ | exact ⟨m44.cell ct3 (by simp), m44.cell dt3 (by simp)⟩ | exact ⟨m43.cell ct3 (by simp), m43.cell dt3 (by simp)⟩ | exact ⟨m42.cell ct3 (by simp), m42.cell dt3 (by simp)⟩ | exact ⟨m41.cell ct3 (by simp), m41.cell dt3 (by simp)⟩ | exact ⟨m40.cell ct3 (by simp), m40.cell dt3 (by simp)⟩ | exact ⟨((Kept.refl [] x39).drew).cell ct3 (by simp), ((Kept.refl [] x39).drew).cell dt3 (by simp)⟩)
  refine wpAnyH_ready (rs := [0]) (by kernel_rfl) (by simp) ?_
  refine AllReadyH.cons rfl (fun K hK => ?_) AllReadyH.nil
  go_simp
  refine (at_any 2 3 _).mono ?_; rintro e x40 ⟨rfl, j40⟩; have k40 : Kept [] w x40 := (k39.drew).trans j40 (by simp); have m40 : Kept [] x39 x40 := (Kept.refl [] x39).drew.trans j40 (by simp)
  try go_wp2_with fail
  refine hK.out _ _ ?_ (fun hHeld => ?_)
  · (try dsimp only); (first | exact ⟨m52.cell ct3 (by simp), m52.cell dt3 (by simp)⟩ | exact ⟨m51.cell ct3 (by simp), m51.cell dt3 (by simp)⟩ | exact ⟨m50.cell ct3 (by simp), m50.cell dt3 (by simp)⟩ | exact ⟨m49.cell ct3 (by simp), m49.cell dt3 (by simp)⟩ | exact ⟨m48.cell ct3 (by simp), m48.cell dt3 (by simp)⟩ | exact ⟨m47.cell ct3 (by simp), m47.cell dt3 (by simp)⟩ | exact ⟨m46.cell ct3 (by simp), m46.cell dt3 (by simp)⟩ | exact ⟨m45.cell ct3 (by simp), m45.cell dt3 (by simp)⟩ | exact ⟨m44.cell ct3 (by simp), m44.cell dt3 (by simp)⟩ | exact ⟨m43.cell ct3 (by simp), m43.cell dt3 (by simp)⟩ | exact ⟨m42.cell ct3 (by simp), m42.cell dt3 (by simp)⟩ | exact ⟨m41.cell ct3 (by simp), m41.cell dt3 (by simp)⟩ | exact ⟨m40.cell ct3 (by simp), m40.cell dt3 (by simp)⟩ | exact ⟨((Kept.refl [] x39).drew).cell ct3 (by simp), ((Kept.refl [] x39).drew).cell dt3 (by simp)⟩)
  clear hK K
  try simp only [Act.put, List.getElem_toArray, List.getElem_cons_succ, List.getElem_cons_zero, List.setIfInBounds_toArray, List.set_cons_zero, List.set_cons_succ]
  refine wpAnyH_ready (rs := [1]) (by kernel_rfl) (by simp) ?_
  refine AllReadyH.cons rfl (fun K hK => ?_) AllReadyH.nil
  go_simp
  refine (at_any 3 0 _).mono ?_; rintro e x41 ⟨rfl, j41⟩; have k41 : Kept [] w x41 := k40.trans j41 (by simp); have m41 : Kept [] x39 x41 := m40.trans j41 (by simp)
  try go_wp2_with fail
  refine hK.out _ _ ?_ (fun hHeld => ?_)
  · (try dsimp only); (first | exact ⟨m52.cell ct3 (by simp), m52.cell dt3 (by simp)⟩ | exact ⟨m51.cell ct3 (by simp), m51.cell dt3 (by simp)⟩ | exact ⟨m50.cell ct3 (by simp), m50.cell dt3 (by simp)⟩ | exact ⟨m49.cell ct3 (by simp), m49.cell dt3 (by simp)⟩ | exact ⟨m48.cell ct3 (by simp), m48.cell dt3 (by simp)⟩ | exact ⟨m47.cell ct3 (by simp), m47.cell dt3 (by simp)⟩ | exact ⟨m46.cell ct3 (by simp), m46.cell dt3 (by simp)⟩ | exact ⟨m45.cell ct3 (by simp), m45.cell dt3 (by simp)⟩ | exact ⟨m44.cell ct3 (by simp), m44.cell dt3 (by simp)⟩ | exact ⟨m43.cell ct3 (by simp), m43.cell dt3 (by simp)⟩ | exact ⟨m42.cell ct3 (by simp), m42.cell dt3 (by simp)⟩ | exact ⟨m41.cell ct3 (by simp), m41.cell dt3 (by simp)⟩ | exact ⟨m40.cell ct3 (by simp), m40.cell dt3 (by simp)⟩ | exact ⟨((Kept.refl [] x39).drew).cell ct3 (by simp), ((Kept.refl [] x39).drew).cell dt3 (by simp)⟩)
  clear hK K
  try simp only [Act.put, List.getElem_toArray, List.getElem_cons_succ, List.getElem_cons_zero, List.setIfInBounds_toArray, List.set_cons_zero, List.set_cons_succ]
  refine wpAnyH_ready (rs := [2]) (by kernel_rfl) (by simp) ?_
  refine AllReadyH.cons rfl (fun K hK => ?_) AllReadyH.nil
  go_simp
  refine (steps_any ⟨2, 3⟩ 1 4 (by unfold Wd; omega) ⟨3, 0⟩ 0 true (by decide) _).mono ?_; rintro e x42 ⟨rfl, j42⟩; have k42 : Kept [] w x42 := k41.trans j42 (by simp); have m42 : Kept [] x39 x42 := m41.trans j42 (by simp)
  try go_wp2_with fail
  refine hK.out _ _ ?_ (fun hHeld => ?_)
  · (try dsimp only); (first | exact ⟨m52.cell ct3 (by simp), m52.cell dt3 (by simp)⟩ | exact ⟨m51.cell ct3 (by simp), m51.cell dt3 (by simp)⟩ | exact ⟨m50.cell ct3 (by simp), m50.cell dt3 (by simp)⟩ | exact ⟨m49.cell ct3 (by simp), m49.cell dt3 (by simp)⟩ | exact ⟨m48.cell ct3 (by simp), m48.cell dt3 (by simp)⟩ | exact ⟨m47.cell ct3 (by simp), m47.cell dt3 (by simp)⟩ | exact ⟨m46.cell ct3 (by simp), m46.cell dt3 (by simp)⟩ | exact ⟨m45.cell ct3 (by simp), m45.cell dt3 (by simp)⟩ | exact ⟨m44.cell ct3 (by simp), m44.cell dt3 (by simp)⟩ | exact ⟨m43.cell ct3 (by simp), m43.cell dt3 (by simp)⟩ | exact ⟨m42.cell ct3 (by simp), m42.cell dt3 (by simp)⟩ | exact ⟨m41.cell ct3 (by simp), m41.cell dt3 (by simp)⟩ | exact ⟨m40.cell ct3 (by simp), m40.cell dt3 (by simp)⟩ | exact ⟨((Kept.refl [] x39).drew).cell ct3 (by simp), ((Kept.refl [] x39).drew).cell dt3 (by simp)⟩)
  clear hK K
  try simp only [Act.put, List.getElem_toArray, List.getElem_cons_succ, List.getElem_cons_zero, List.setIfInBounds_toArray, List.set_cons_zero, List.set_cons_succ]
  refine wpAnyH_take (i := 3) (v := ?_) rfl (by kernel_rfl) (by kernel_rfl) (by kernel_rfl) (fun _ _ _ h => h) (Or.inl ⟨by rfl, ?_⟩) (by assumption) ?_
  rotate_left
  · (intro wq hSw; (try dsimp only at hSw); go_simp; try with_reducible rfl)
  try simp only [Act.put, List.getElem_toArray, List.getElem_cons_succ, List.getElem_cons_zero, List.setIfInBounds_toArray, List.set_cons_zero, List.set_cons_succ]
  refine wpAnyH_take (i := 4) (v := ?_) rfl (by kernel_rfl) (by kernel_rfl) (by kernel_rfl) (fun _ _ _ h => h) (Or.inl ⟨by rfl, ?_⟩) (by assumption) ?_
  rotate_left
  · (intro wq hSw; (try dsimp only at hSw); go_simp; try with_reducible rfl)
  try simp only [Act.put, List.getElem_toArray, List.getElem_cons_succ, List.getElem_cons_zero, List.setIfInBounds_toArray, List.set_cons_zero, List.set_cons_succ]
  refine wpAnyH_take (i := 6) (v := ?_) rfl (by kernel_rfl) (by kernel_rfl) (by kernel_rfl) (fun _ _ _ h => h) (Or.inl ⟨by rfl, ?_⟩) (by assumption) ?_
  rotate_left
  · (intro wq hSw; (try dsimp only at hSw); go_simp; try with_reducible rfl)
  try simp only [Act.put, List.getElem_toArray, List.getElem_cons_succ, List.getElem_cons_zero, List.setIfInBounds_toArray, List.set_cons_zero, List.set_cons_succ]
  refine wpAnyH_ready (rs := [5]) (by kernel_rfl) (by simp) ?_
  refine AllReadyH.cons rfl (fun K hK => ?_) AllReadyH.nil
  go_simp
  refine (at_any 2 3 _).mono ?_; rintro e x43 ⟨rfl, j43⟩; have k43 : Kept [] w x43 := k42.trans j43 (by simp); have m43 : Kept [] x39 x43 := m42.trans j43 (by simp)
  try go_wp2_with fail
  refine hK.out _ _ ?_ (fun hHeld => ?_)
  · (try dsimp only); (first | exact ⟨m52.cell ct3 (by simp), m52.cell dt3 (by simp)⟩ | exact ⟨m51.cell ct3 (by simp), m51.cell dt3 (by simp)⟩ | exact ⟨m50.cell ct3 (by simp), m50.cell dt3 (by simp)⟩ | exact ⟨m49.cell ct3 (by simp), m49.cell dt3 (by simp)⟩ | exact ⟨m48.cell ct3 (by simp), m48.cell dt3 (by simp)⟩ | exact ⟨m47.cell ct3 (by simp), m47.cell dt3 (by simp)⟩ | exact ⟨m46.cell ct3 (by simp), m46.cell dt3 (by simp)⟩ | exact ⟨m45.cell ct3 (by simp), m45.cell dt3 (by simp)⟩ | exact ⟨m44.cell ct3 (by simp), m44.cell dt3 (by simp)⟩ | exact ⟨m43.cell ct3 (by simp), m43.cell dt3 (by simp)⟩ | exact ⟨m42.cell ct3 (by simp), m42.cell dt3 (by simp)⟩ | exact ⟨m41.cell ct3 (by simp), m41.cell dt3 (by simp)⟩ | exact ⟨m40.cell ct3 (by simp), m40.cell dt3 (by simp)⟩ | exact ⟨((Kept.refl [] x39).drew).cell ct3 (by simp), ((Kept.refl [] x39).drew).cell dt3 (by simp)⟩)
  clear hK K
  try simp only [Act.put, List.getElem_toArray, List.getElem_cons_succ, List.getElem_cons_zero, List.setIfInBounds_toArray, List.set_cons_zero, List.set_cons_succ]
  refine wpAnyH_ready (rs := [7]) (by kernel_rfl) (by simp) ?_
  refine AllReadyH.cons rfl (fun K hK => ?_) AllReadyH.nil
  go_simp
  refine (steps_any ⟨2, 3⟩ (-12) 4 (by unfold Wd; omega) ⟨0, 0⟩ 3 true (by decide) _).mono ?_; rintro e x44 ⟨rfl, j44⟩; have k44 : Kept [] w x44 := k43.trans j44 (by simp); have m44 : Kept [] x39 x44 := m43.trans j44 (by simp)
  try go_wp2_with fail
  refine hK.out _ _ ?_ (fun hHeld => ?_)
  · (try dsimp only); (first | exact ⟨m52.cell ct3 (by simp), m52.cell dt3 (by simp)⟩ | exact ⟨m51.cell ct3 (by simp), m51.cell dt3 (by simp)⟩ | exact ⟨m50.cell ct3 (by simp), m50.cell dt3 (by simp)⟩ | exact ⟨m49.cell ct3 (by simp), m49.cell dt3 (by simp)⟩ | exact ⟨m48.cell ct3 (by simp), m48.cell dt3 (by simp)⟩ | exact ⟨m47.cell ct3 (by simp), m47.cell dt3 (by simp)⟩ | exact ⟨m46.cell ct3 (by simp), m46.cell dt3 (by simp)⟩ | exact ⟨m45.cell ct3 (by simp), m45.cell dt3 (by simp)⟩ | exact ⟨m44.cell ct3 (by simp), m44.cell dt3 (by simp)⟩ | exact ⟨m43.cell ct3 (by simp), m43.cell dt3 (by simp)⟩ | exact ⟨m42.cell ct3 (by simp), m42.cell dt3 (by simp)⟩ | exact ⟨m41.cell ct3 (by simp), m41.cell dt3 (by simp)⟩ | exact ⟨m40.cell ct3 (by simp), m40.cell dt3 (by simp)⟩ | exact ⟨((Kept.refl [] x39).drew).cell ct3 (by simp), ((Kept.refl [] x39).drew).cell dt3 (by simp)⟩)
  clear hK K
  try simp only [Act.put, List.getElem_toArray, List.getElem_cons_succ, List.getElem_cons_zero, List.setIfInBounds_toArray, List.set_cons_zero, List.set_cons_succ]
  refine wpAnyH_take (i := 8) (v := ?_) rfl (by kernel_rfl) (by kernel_rfl) (by kernel_rfl) (fun _ _ _ h => h) (Or.inl ⟨by rfl, ?_⟩) (by assumption) ?_
  rotate_left
  · (intro wq hSw; (try dsimp only at hSw); go_simp; try with_reducible rfl)
  try simp only [Act.put, List.getElem_toArray, List.getElem_cons_succ, List.getElem_cons_zero, List.setIfInBounds_toArray, List.set_cons_zero, List.set_cons_succ]
  refine wpAnyH_take (i := 9) (v := ?_) rfl (by kernel_rfl) (by kernel_rfl) (by kernel_rfl) (fun _ _ _ h => h) (Or.inl ⟨by rfl, ?_⟩) (by assumption) ?_
  rotate_left
  · (intro wq hSw; (try dsimp only at hSw); go_simp; try with_reducible rfl)
  try simp only [Act.put, List.getElem_toArray, List.getElem_cons_succ, List.getElem_cons_zero, List.setIfInBounds_toArray, List.set_cons_zero, List.set_cons_succ]
  refine wpAnyH_take (i := 10) (v := ?_) rfl (by kernel_rfl) (by kernel_rfl) (by kernel_rfl) (fun _ _ _ h => h) (Or.inl ⟨by rfl, ?_⟩) (by assumption) ?_
  rotate_left
  · (intro wq hSw; (try dsimp only at hSw); go_simp; try with_reducible rfl)
  try simp only [Act.put, List.getElem_toArray, List.getElem_cons_succ, List.getElem_cons_zero, List.setIfInBounds_toArray, List.set_cons_zero, List.set_cons_succ]
  refine wpAnyH_ready (rs := [11]) (by kernel_rfl) (by simp) ?_
  refine AllReadyH.cons rfl (fun K hK => ?_) AllReadyH.nil
  go_simp
  refine (at_any 2 3 _).mono ?_; rintro e x45 ⟨rfl, j45⟩; have k45 : Kept [] w x45 := k44.trans j45 (by simp); have m45 : Kept [] x39 x45 := m44.trans j45 (by simp)
  try go_wp2_with fail
  refine hK.out _ _ ?_ (fun hHeld => ?_)
  · (try dsimp only); (first | exact ⟨m52.cell ct3 (by simp), m52.cell dt3 (by simp)⟩ | exact ⟨m51.cell ct3 (by simp), m51.cell dt3 (by simp)⟩ | exact ⟨m50.cell ct3 (by simp), m50.cell dt3 (by simp)⟩ | exact ⟨m49.cell ct3 (by simp), m49.cell dt3 (by simp)⟩ | exact ⟨m48.cell ct3 (by simp), m48.cell dt3 (by simp)⟩ | exact ⟨m47.cell ct3 (by simp), m47.cell dt3 (by simp)⟩ | exact ⟨m46.cell ct3 (by simp), m46.cell dt3 (by simp)⟩ | exact ⟨m45.cell ct3 (by simp), m45.cell dt3 (by simp)⟩ | exact ⟨m44.cell ct3 (by simp), m44.cell dt3 (by simp)⟩ | exact ⟨m43.cell ct3 (by simp), m43.cell dt3 (by simp)⟩ | exact ⟨m42.cell ct3 (by simp), m42.cell dt3 (by simp)⟩ | exact ⟨m41.cell ct3 (by simp), m41.cell dt3 (by simp)⟩ | exact ⟨m40.cell ct3 (by simp), m40.cell dt3 (by simp)⟩ | exact ⟨((Kept.refl [] x39).drew).cell ct3 (by simp), ((Kept.refl [] x39).drew).cell dt3 (by simp)⟩)
  clear hK K
  try simp only [Act.put, List.getElem_toArray, List.getElem_cons_succ, List.getElem_cons_zero, List.setIfInBounds_toArray, List.set_cons_zero, List.set_cons_succ]
  refine wpAnyH_ready (rs := [12]) (by kernel_rfl) (by simp) ?_
  refine AllReadyH.cons rfl (fun K hK => ?_) AllReadyH.nil
  go_simp
  refine (at_any 5 0 _).mono ?_; rintro e x46 ⟨rfl, j46⟩; have k46 : Kept [] w x46 := k45.trans j46 (by simp); have m46 : Kept [] x39 x46 := m45.trans j46 (by simp)
  try go_wp2_with fail
  refine hK.out _ _ ?_ (fun hHeld => ?_)
  · (try dsimp only); (first | exact ⟨m52.cell ct3 (by simp), m52.cell dt3 (by simp)⟩ | exact ⟨m51.cell ct3 (by simp), m51.cell dt3 (by simp)⟩ | exact ⟨m50.cell ct3 (by simp), m50.cell dt3 (by simp)⟩ | exact ⟨m49.cell ct3 (by simp), m49.cell dt3 (by simp)⟩ | exact ⟨m48.cell ct3 (by simp), m48.cell dt3 (by simp)⟩ | exact ⟨m47.cell ct3 (by simp), m47.cell dt3 (by simp)⟩ | exact ⟨m46.cell ct3 (by simp), m46.cell dt3 (by simp)⟩ | exact ⟨m45.cell ct3 (by simp), m45.cell dt3 (by simp)⟩ | exact ⟨m44.cell ct3 (by simp), m44.cell dt3 (by simp)⟩ | exact ⟨m43.cell ct3 (by simp), m43.cell dt3 (by simp)⟩ | exact ⟨m42.cell ct3 (by simp), m42.cell dt3 (by simp)⟩ | exact ⟨m41.cell ct3 (by simp), m41.cell dt3 (by simp)⟩ | exact ⟨m40.cell ct3 (by simp), m40.cell dt3 (by simp)⟩ | exact ⟨((Kept.refl [] x39).drew).cell ct3 (by simp), ((Kept.refl [] x39).drew).cell dt3 (by simp)⟩)
  clear hK K
  try simp only [Act.put, List.getElem_toArray, List.getElem_cons_succ, List.getElem_cons_zero, List.setIfInBounds_toArray, List.set_cons_zero, List.set_cons_succ]
  refine wpAnyH_ready (rs := [13]) (by kernel_rfl) (by simp) ?_
  refine AllReadyH.cons rfl (fun K hK => ?_) AllReadyH.nil
  go_simp
  refine (steps_any ⟨2, 3⟩ 9 4 (by unfold Wd; omega) ⟨5, 0⟩ 0 true (by decide) _).mono ?_; rintro e x47 ⟨rfl, j47⟩; have k47 : Kept [] w x47 := k46.trans j47 (by simp); have m47 : Kept [] x39 x47 := m46.trans j47 (by simp)
  try go_wp2_with fail
  refine hK.out _ _ ?_ (fun hHeld => ?_)
  · (try dsimp only); (first | exact ⟨m52.cell ct3 (by simp), m52.cell dt3 (by simp)⟩ | exact ⟨m51.cell ct3 (by simp), m51.cell dt3 (by simp)⟩ | exact ⟨m50.cell ct3 (by simp), m50.cell dt3 (by simp)⟩ | exact ⟨m49.cell ct3 (by simp), m49.cell dt3 (by simp)⟩ | exact ⟨m48.cell ct3 (by simp), m48.cell dt3 (by simp)⟩ | exact ⟨m47.cell ct3 (by simp), m47.cell dt3 (by simp)⟩ | exact ⟨m46.cell ct3 (by simp), m46.cell dt3 (by simp)⟩ | exact ⟨m45.cell ct3 (by simp), m45.cell dt3 (by simp)⟩ | exact ⟨m44.cell ct3 (by simp), m44.cell dt3 (by simp)⟩ | exact ⟨m43.cell ct3 (by simp), m43.cell dt3 (by simp)⟩ | exact ⟨m42.cell ct3 (by simp), m42.cell dt3 (by simp)⟩ | exact ⟨m41.cell ct3 (by simp), m41.cell dt3 (by simp)⟩ | exact ⟨m40.cell ct3 (by simp), m40.cell dt3 (by simp)⟩ | exact ⟨((Kept.refl [] x39).drew).cell ct3 (by simp), ((Kept.refl [] x39).drew).cell dt3 (by simp)⟩)
  clear hK K
  try simp only [Act.put, List.getElem_toArray, List.getElem_cons_succ, List.getElem_cons_zero, List.setIfInBounds_toArray, List.set_cons_zero, List.set_cons_succ]
  refine wpAnyH_take (i := 14) (v := ?_) rfl (by kernel_rfl) (by kernel_rfl) (by kernel_rfl) (fun _ _ _ h => h) (Or.inl ⟨by rfl, ?_⟩) (by assumption) ?_
  rotate_left
  · (intro wq hSw; (try dsimp only at hSw); go_simp; try with_reducible rfl)
  try simp only [Act.put, List.getElem_toArray, List.getElem_cons_succ, List.getElem_cons_zero, List.setIfInBounds_toArray, List.set_cons_zero, List.set_cons_succ]
  refine wpAnyH_take (i := 15) (v := ?_) rfl (by kernel_rfl) (by kernel_rfl) (by kernel_rfl) (fun _ _ _ h => h) (Or.inl ⟨by rfl, ?_⟩) (by assumption) ?_
  rotate_left
  · (intro wq hSw; (try dsimp only at hSw); go_simp; try with_reducible rfl)
  try simp only [Act.put, List.getElem_toArray, List.getElem_cons_succ, List.getElem_cons_zero, List.setIfInBounds_toArray, List.set_cons_zero, List.set_cons_succ]
  refine wpAnyH_take (i := 16) (v := ?_) rfl (by kernel_rfl) (by kernel_rfl) (by kernel_rfl) (fun _ _ _ h => h) (Or.inl ⟨by rfl, ?_⟩) (by assumption) ?_
  rotate_left
  · (intro wq hSw; (try dsimp only at hSw); go_simp; try with_reducible rfl)
  try simp only [Act.put, List.getElem_toArray, List.getElem_cons_succ, List.getElem_cons_zero, List.setIfInBounds_toArray, List.set_cons_zero, List.set_cons_succ]
  refine wpAnyH_take (i := 17) (v := ?_) rfl (by kernel_rfl) (by kernel_rfl) (by kernel_rfl) (fun _ _ _ h => h) (Or.inl ⟨by rfl, ?_⟩) (by assumption) ?_
  rotate_left
  · (intro wq hSw; (try dsimp only at hSw); go_simp; try with_reducible rfl)
  try simp only [Act.put, List.getElem_toArray, List.getElem_cons_succ, List.getElem_cons_zero, List.setIfInBounds_toArray, List.set_cons_zero, List.set_cons_succ]
  refine wpAnyH_take (i := 18) (v := ?_) rfl (by kernel_rfl) (by kernel_rfl) (by kernel_rfl) (fun _ _ _ h => h) (Or.inl ⟨by rfl, ?_⟩) (by assumption) ?_
  rotate_left
  · (intro wq hSw; (try dsimp only at hSw); go_simp; try with_reducible rfl)
  try simp only [Act.put, List.getElem_toArray, List.getElem_cons_succ, List.getElem_cons_zero, List.setIfInBounds_toArray, List.set_cons_zero, List.set_cons_succ]
  refine wpAnyH_ready (rs := [19]) (by kernel_rfl) (by simp) ?_
  refine AllReadyH.cons rfl (fun K hK => ?_) AllReadyH.nil
  go_simp
  refine (steps_any ⟨0, 0⟩ (-1) 4 (by unfold Wd; omega) ⟨0, 0⟩ 3 true (by decide) _).mono ?_; rintro e x48 ⟨rfl, j48⟩; have k48 : Kept [] w x48 := k47.trans j48 (by simp); have m48 : Kept [] x39 x48 := m47.trans j48 (by simp)
  try go_wp2_with fail
  refine hK.out _ _ ?_ (fun hHeld => ?_)
  · (try dsimp only); (first | exact ⟨m52.cell ct3 (by simp), m52.cell dt3 (by simp)⟩ | exact ⟨m51.cell ct3 (by simp), m51.cell dt3 (by simp)⟩ | exact ⟨m50.cell ct3 (by simp), m50.cell dt3 (by simp)⟩ | exact ⟨m49.cell ct3 (by simp), m49.cell dt3 (by simp)⟩ | exact ⟨m48.cell ct3 (by simp), m48.cell dt3 (by simp)⟩ | exact ⟨m47.cell ct3 (by simp), m47.cell dt3 (by simp)⟩ | exact ⟨m46.cell ct3 (by simp), m46.cell dt3 (by simp)⟩ | exact ⟨m45.cell ct3 (by simp), m45.cell dt3 (by simp)⟩ | exact ⟨m44.cell ct3 (by simp), m44.cell dt3 (by simp)⟩ | exact ⟨m43.cell ct3 (by simp), m43.cell dt3 (by simp)⟩ | exact ⟨m42.cell ct3 (by simp), m42.cell dt3 (by simp)⟩ | exact ⟨m41.cell ct3 (by simp), m41.cell dt3 (by simp)⟩ | exact ⟨m40.cell ct3 (by simp), m40.cell dt3 (by simp)⟩ | exact ⟨((Kept.refl [] x39).drew).cell ct3 (by simp), ((Kept.refl [] x39).drew).cell dt3 (by simp)⟩)
  clear hK K
  try simp only [Act.put, List.getElem_toArray, List.getElem_cons_succ, List.getElem_cons_zero, List.setIfInBounds_toArray, List.set_cons_zero, List.set_cons_succ]
  refine wpAnyH_take (i := 20) (v := ?_) rfl (by kernel_rfl) (by kernel_rfl) (by kernel_rfl) (fun _ _ _ h => h) (Or.inl ⟨by rfl, ?_⟩) (by assumption) ?_
  rotate_left
  · (intro wq hSw; (try dsimp only at hSw); go_simp; try with_reducible rfl)
  try simp only [Act.put, List.getElem_toArray, List.getElem_cons_succ, List.getElem_cons_zero, List.setIfInBounds_toArray, List.set_cons_zero, List.set_cons_succ]
  refine wpAnyH_take (i := 21) (v := ?_) rfl (by kernel_rfl) (by kernel_rfl) (by kernel_rfl) (fun _ _ _ h => h) (Or.inl ⟨by rfl, ?_⟩) (by assumption) ?_
  rotate_left
  · (intro wq hSw; (try dsimp only at hSw); go_simp; try with_reducible rfl)
  try simp only [Act.put, List.getElem_toArray, List.getElem_cons_succ, List.getElem_cons_zero, List.setIfInBounds_toArray, List.set_cons_zero, List.set_cons_succ]
  refine wpAnyH_take (i := 22) (v := ?_) rfl (by kernel_rfl) (by kernel_rfl) (by kernel_rfl) (fun _ _ _ h => h) (Or.inl ⟨by rfl, ?_⟩) (by assumption) ?_
  rotate_left
  · (intro wq hSw; (try dsimp only at hSw); go_simp; try with_reducible rfl)
  try simp only [Act.put, List.getElem_toArray, List.getElem_cons_succ, List.getElem_cons_zero, List.setIfInBounds_toArray, List.set_cons_zero, List.set_cons_succ]
  refine wpAnyH_take (i := 24) (v := ?_) rfl (by kernel_rfl) (by kernel_rfl) (by kernel_rfl) (fun _ _ _ h => h) (Or.inl ⟨by rfl, ?_⟩) (by assumption) ?_
  rotate_left
  · (intro wq hSw; (try dsimp only at hSw); go_simp; try with_reducible rfl)
  try simp only [Act.put, List.getElem_toArray, List.getElem_cons_succ, List.getElem_cons_zero, List.setIfInBounds_toArray, List.set_cons_zero, List.set_cons_succ]
  refine wpAnyH_ready (rs := [23]) (by kernel_rfl) (by simp) ?_
  refine AllReadyH.cons rfl (fun K hK => ?_) AllReadyH.nil
  go_simp
  refine (at_any 2 4 _).mono ?_; rintro e x49 ⟨rfl, j49⟩; have k49 : Kept [] w x49 := k48.trans j49 (by simp); have m49 : Kept [] x39 x49 := m48.trans j49 (by simp)
  try go_wp2_with fail
  refine hK.out _ _ ?_ (fun hHeld => ?_)
  · (try dsimp only); (first | exact ⟨m52.cell ct3 (by simp), m52.cell dt3 (by simp)⟩ | exact ⟨m51.cell ct3 (by simp), m51.cell dt3 (by simp)⟩ | exact ⟨m50.cell ct3 (by simp), m50.cell dt3 (by simp)⟩ | exact ⟨m49.cell ct3 (by simp), m49.cell dt3 (by simp)⟩ | exact ⟨m48.cell ct3 (by simp), m48.cell dt3 (by simp)⟩ | exact ⟨m47.cell ct3 (by simp), m47.cell dt3 (by simp)⟩ | exact ⟨m46.cell ct3 (by simp), m46.cell dt3 (by simp)⟩ | exact ⟨m45.cell ct3 (by simp), m45.cell dt3 (by simp)⟩ | exact ⟨m44.cell ct3 (by simp), m44.cell dt3 (by simp)⟩ | exact ⟨m43.cell ct3 (by simp), m43.cell dt3 (by simp)⟩ | exact ⟨m42.cell ct3 (by simp), m42.cell dt3 (by simp)⟩ | exact ⟨m41.cell ct3 (by simp), m41.cell dt3 (by simp)⟩ | exact ⟨m40.cell ct3 (by simp), m40.cell dt3 (by simp)⟩ | exact ⟨((Kept.refl [] x39).drew).cell ct3 (by simp), ((Kept.refl [] x39).drew).cell dt3 (by simp)⟩)
  clear hK K
  try simp only [Act.put, List.getElem_toArray, List.getElem_cons_succ, List.getElem_cons_zero, List.setIfInBounds_toArray, List.set_cons_zero, List.set_cons_succ]
  refine wpAnyH_ready (rs := [25]) (by kernel_rfl) (by simp) ?_
  refine AllReadyH.cons rfl (fun K hK => ?_) AllReadyH.nil
  go_simp
  refine (steps_any ⟨2, 4⟩ 0 4 (by unfold Wd; omega) ⟨0, 0⟩ 2 true (by decide) _).mono ?_; rintro e x50 ⟨rfl, j50⟩; have k50 : Kept [] w x50 := k49.trans j50 (by simp); have m50 : Kept [] x39 x50 := m49.trans j50 (by simp)
  try go_wp2_with fail
  refine hK.out _ _ ?_ (fun hHeld => ?_)
  · (try dsimp only); (first | exact ⟨m52.cell ct3 (by simp), m52.cell dt3 (by simp)⟩ | exact ⟨m51.cell ct3 (by simp), m51.cell dt3 (by simp)⟩ | exact ⟨m50.cell ct3 (by simp), m50.cell dt3 (by simp)⟩ | exact ⟨m49.cell ct3 (by simp), m49.cell dt3 (by simp)⟩ | exact ⟨m48.cell ct3 (by simp), m48.cell dt3 (by simp)⟩ | exact ⟨m47.cell ct3 (by simp), m47.cell dt3 (by simp)⟩ | exact ⟨m46.cell ct3 (by simp), m46.cell dt3 (by simp)⟩ | exact ⟨m45.cell ct3 (by simp), m45.cell dt3 (by simp)⟩ | exact ⟨m44.cell ct3 (by simp), m44.cell dt3 (by simp)⟩ | exact ⟨m43.cell ct3 (by simp), m43.cell dt3 (by simp)⟩ | exact ⟨m42.cell ct3 (by simp), m42.cell dt3 (by simp)⟩ | exact ⟨m41.cell ct3 (by simp), m41.cell dt3 (by simp)⟩ | exact ⟨m40.cell ct3 (by simp), m40.cell dt3 (by simp)⟩ | exact ⟨((Kept.refl [] x39).drew).cell ct3 (by simp), ((Kept.refl [] x39).drew).cell dt3 (by simp)⟩)
  clear hK K
  try simp only [Act.put, List.getElem_toArray, List.getElem_cons_succ, List.getElem_cons_zero, List.setIfInBounds_toArray, List.set_cons_zero, List.set_cons_succ]
  refine wpAnyH_take (i := 26) (v := ?_) rfl (by kernel_rfl) (by kernel_rfl) (by kernel_rfl) (fun _ _ _ h => h) (Or.inl ⟨by rfl, ?_⟩) (by assumption) ?_
  rotate_left
  · (intro wq hSw; (try dsimp only at hSw); go_simp; try with_reducible rfl)
  try simp only [Act.put, List.getElem_toArray, List.getElem_cons_succ, List.getElem_cons_zero, List.setIfInBounds_toArray, List.set_cons_zero, List.set_cons_succ]
  refine wpAnyH_take (i := 27) (v := ?_) rfl (by kernel_rfl) (by kernel_rfl) (by kernel_rfl) (fun _ _ _ h => h) (Or.inl ⟨by rfl, ?_⟩) (by assumption) ?_
  rotate_left
  · (intro wq hSw; (try dsimp only at hSw); go_simp; try with_reducible rfl)
  try simp only [Act.put, List.getElem_toArray, List.getElem_cons_succ, List.getElem_cons_zero, List.setIfInBounds_toArray, List.set_cons_zero, List.set_cons_succ]
  refine wpAnyH_take (i := 28) (v := ?_) rfl (by kernel_rfl) (by kernel_rfl) (by kernel_rfl) (fun _ _ _ h => h) (Or.inl ⟨by rfl, ?_⟩) (by assumption) ?_
  rotate_left
  · (intro wq hSw; (try dsimp only at hSw); go_simp; try with_reducible rfl)
  try simp only [Act.put, List.getElem_toArray, List.getElem_cons_succ, List.getElem_cons_zero, List.setIfInBounds_toArray, List.set_cons_zero, List.set_cons_succ]
  refine wpAnyH_take (i := 30) (v := ?_) rfl (by kernel_rfl) (by kernel_rfl) (by kernel_rfl) (fun _ _ _ h => h) (Or.inl ⟨by rfl, ?_⟩) (by assumption) ?_
  rotate_left
  · (intro wq hSw; (try dsimp only at hSw); go_simp; try with_reducible rfl)
  try simp only [Act.put, List.getElem_toArray, List.getElem_cons_succ, List.getElem_cons_zero, List.setIfInBounds_toArray, List.set_cons_zero, List.set_cons_succ]
  refine wpAnyH_ready (rs := [29]) (by kernel_rfl) (by simp) ?_
  refine AllReadyH.cons rfl (fun K hK => ?_) AllReadyH.nil
  go_simp
  refine (at_any 1099511627776 3 _).mono ?_; rintro e x51 ⟨rfl, j51⟩; have k51 : Kept [] w x51 := k50.trans j51 (by simp); have m51 : Kept [] x39 x51 := m50.trans j51 (by simp)
  try go_wp2_with fail
  refine hK.out _ _ ?_ (fun hHeld => ?_)
  · (try dsimp only); (first | exact ⟨m52.cell ct3 (by simp), m52.cell dt3 (by simp)⟩ | exact ⟨m51.cell ct3 (by simp), m51.cell dt3 (by simp)⟩ | exact ⟨m50.cell ct3 (by simp), m50.cell dt3 (by simp)⟩ | exact ⟨m49.cell ct3 (by simp), m49.cell dt3 (by simp)⟩ | exact ⟨m48.cell ct3 (by simp), m48.cell dt3 (by simp)⟩ | exact ⟨m47.cell ct3 (by simp), m47.cell dt3 (by simp)⟩ | exact ⟨m46.cell ct3 (by simp), m46.cell dt3 (by simp)⟩ | exact ⟨m45.cell ct3 (by simp), m45.cell dt3 (by simp)⟩ | exact ⟨m44.cell ct3 (by simp), m44.cell dt3 (by simp)⟩ | exact ⟨m43.cell ct3 (by simp), m43.cell dt3 (by simp)⟩ | exact ⟨m42.cell ct3 (by simp), m42.cell dt3 (by simp)⟩ | exact ⟨m41.cell ct3 (by simp), m41.cell dt3 (by simp)⟩ | exact ⟨m40.cell ct3 (by simp), m40.cell dt3 (by simp)⟩ | exact ⟨((Kept.refl [] x39).drew).cell ct3 (by simp), ((Kept.refl [] x39).drew).cell dt3 (by simp)⟩)
  clear hK K
  try simp only [Act.put, List.getElem_toArray, List.getElem_cons_succ, List.getElem_cons_zero, List.setIfInBounds_toArray, List.set_cons_zero, List.set_cons_succ]
  refine wpAnyH_ready (rs := [31]) (by kernel_rfl) (by simp) ?_
  refine AllReadyH.cons rfl (fun K hK => ?_) AllReadyH.nil
  go_simp
  refine (steps_any ⟨1099511627776, 3⟩ 1 4 (by unfold Wd; omega) ⟨0, 0⟩ 3 true (by decide) _).mono ?_; rintro e x52 ⟨rfl, j52⟩; have k52 : Kept [] w x52 := k51.trans j52 (by simp); have m52 : Kept [] x39 x52 := m51.trans j52 (by simp)
  try go_wp2_with fail
  refine hK.out _ _ ?_ (fun hHeld => ?_)
  · (try dsimp only); (first | exact ⟨m52.cell ct3 (by simp), m52.cell dt3 (by simp)⟩ | exact ⟨m51.cell ct3 (by simp), m51.cell dt3 (by simp)⟩ | exact ⟨m50.cell ct3 (by simp), m50.cell dt3 (by simp)⟩ | exact ⟨m49.cell ct3 (by simp), m49.cell dt3 (by simp)⟩ | exact ⟨m48.cell ct3 (by simp), m48.cell dt3 (by simp)⟩ | exact ⟨m47.cell ct3 (by simp), m47.cell dt3 (by simp)⟩ | exact ⟨m46.cell ct3 (by simp), m46.cell dt3 (by simp)⟩ | exact ⟨m45.cell ct3 (by simp), m45.cell dt3 (by simp)⟩ | exact ⟨m44.cell ct3 (by simp), m44.cell dt3 (by simp)⟩ | exact ⟨m43.cell ct3 (by simp), m43.cell dt3 (by simp)⟩ | exact ⟨m42.cell ct3 (by simp), m42.cell dt3 (by simp)⟩ | exact ⟨m41.cell ct3 (by simp), m41.cell dt3 (by simp)⟩ | exact ⟨m40.cell ct3 (by simp), m40.cell dt3 (by simp)⟩ | exact ⟨((Kept.refl [] x39).drew).cell ct3 (by simp), ((Kept.refl [] x39).drew).cell dt3 (by simp)⟩)
  clear hK K
  try simp only [Act.put, List.getElem_toArray, List.getElem_cons_succ, List.getElem_cons_zero, List.setIfInBounds_toArray, List.set_cons_zero, List.set_cons_succ]
  refine wpAnyH_take (i := 32) (v := ?_) rfl (by kernel_rfl) (by kernel_rfl) (by kernel_rfl) (fun _ _ _ h => h) (Or.inl ⟨by rfl, ?_⟩) (by assumption) ?_
  rotate_left
  · (intro wq hSw; (try dsimp only at hSw); go_simp; try with_reducible rfl)
  try simp only [Act.put, List.getElem_toArray, List.getElem_cons_succ, List.getElem_cons_zero, List.setIfInBounds_toArray, List.set_cons_zero, List.set_cons_succ]
  refine wpAnyH_take (i := 33) (v := ?_) rfl (by kernel_rfl) (by kernel_rfl) (by kernel_rfl) (fun _ _ _ h => h) (Or.inl ⟨by rfl, ?_⟩) (by assumption) ?_
  rotate_left
  · (intro wq hSw; (try dsimp only at hSw); go_simp; try with_reducible rfl)
  try simp only [Act.put, List.getElem_toArray, List.getElem_cons_succ, List.getElem_cons_zero, List.setIfInBounds_toArray, List.set_cons_zero, List.set_cons_succ]
  refine wpAnyH_done (by kernel_rfl) ?_ _
  replace bt3 := bt3.kept m52 (by simp)
  clear m40 m41 m42 m43 m44 m45 m46 m47 m48 m49 m50 m51 m52 j40 j41 j42 j43 j44 j45 j46 j47 j48 j49 j50 j51 j52
  clear ct3 dt3 lt3
  have ct3 := bt3.c0
  have dt3 := bt3.c1
  simp only at ct3 dt3
  have lt3 := bt3.lt
  go_wp2_with fail
  refine (at_any 2 3 _).mono ?_
  rintro e x53 ⟨rfl, j53⟩
  have k53 : Kept [] w x53 := k52.trans j53 (by simp)
  replace bt3 := bt3.kept j53 (by simp)
  have ct3 := bt3.c0
  have dt3 := bt3.c1
  simp only at ct3 dt3
  have lt3 := bt3.lt
  clear j53
  go_wp2_with fail
  refine (at_any 3 0 _).mono ?_
  rintro e x54 ⟨rfl, j54⟩
  have k54 : Kept [] w x54 := k53.trans j54 (by simp)
  replace bt3 := bt3.kept j54 (by simp)
  have ct3 := bt3.c0
  have dt3 := bt3.c1
  simp only at ct3 dt3
  have lt3 := bt3.lt
  clear j54
  go_wp2_with fail
  refine (distance_any ⟨2, 3⟩ ⟨3, 0⟩ 4 1 0 true (by decide) _).mono ?_
  rintro e x55 ⟨rfl, j55⟩
  have k55 : Kept [] w x55 := k54.trans j55 (by simp)
  replace bt3 := bt3.kept j55 (by simp)
  have ct3 := bt3.c0
  have dt3 := bt3.c1
  simp only at ct3 dt3
  have lt3 := bt3.lt
  clear j55
  go_wp2_with fail
  refine (at_any 3 0 _).mono ?_
  rintro e x56 ⟨rfl, j56⟩
  have k56 : Kept [] w x56 := k55.trans j56 (by simp)
  replace bt3 := bt3.kept j56 (by simp)
  have ct3 := bt3.c0
  have dt3 := bt3.c1
  simp only at ct3 dt3
  have lt3 := bt3.lt
  clear j56
  go_wp2_with fail
  refine (at_any 2 3 _).mono ?_
  rintro e x57 ⟨rfl, j57⟩
  have k57 : Kept [] w x57 := k56.trans j57 (by simp)
  replace bt3 := bt3.kept j57 (by simp)
  have ct3 := bt3.c0
  have dt3 := bt3.c1
  simp only at ct3 dt3
  have lt3 := bt3.lt
  clear j57
  go_wp2_with fail
  refine (distance_any ⟨3, 0⟩ ⟨2, 3⟩ 4 (-1) 0 true (by decide) _).mono ?_
  rintro e x58 ⟨rfl, j58⟩
  have k58 : Kept [] w x58 := k57.trans j58 (by simp)
  replace bt3 := bt3.kept j58 (by simp)
  have ct3 := bt3.c0
  have dt3 := bt3.c1
  simp only at ct3 dt3
  have lt3 := bt3.lt
  clear j58
  go_wp2_with fail
  refine (at_any 12 0 _).mono ?_
  rintro e x59 ⟨rfl, j59⟩
  have k59 : Kept [] w x59 := k58.trans j59 (by simp)
  replace bt3 := bt3.kept j59 (by simp)
  have ct3 := bt3.c0
  have dt3 := bt3.c1
  simp only at ct3 dt3
  have lt3 := bt3.lt
  clear j59
  go_wp2_with fail
  refine (text_any ⟨12, 0⟩ ⟨#[49, 50, 58, 48]⟩ 0 true kt_12 _ (hT.out.kept k59)).mono ?_
  rintro e x60 ⟨rfl, j60⟩
  have k60 : Kept [] w x60 := k59.trans j60 (by simp)
  replace bt3 := bt3.kept j60 (by simp)
  have ct3 := bt3.c0
  have dt3 := bt3.c1
  simp only at ct3 dt3
  have lt3 := bt3.lt
  clear j60
  go_wp2_with fail
  refine (at_any (-1) 0 _).mono ?_
  rintro e x61 ⟨rfl, j61⟩
  have k61 : Kept [] w x61 := k60.trans j61 (by simp)
  replace bt3 := bt3.kept j61 (by simp)
  have ct3 := bt3.c0
  have dt3 := bt3.c1
  simp only at ct3 dt3
  have lt3 := bt3.lt
  clear j61
  go_wp2_with fail
  refine (text_any ⟨(-1), 0⟩ ⟨#[]⟩ 2 true kt_0 _ (hT.out.kept k61)).mono ?_
  rintro e x62 ⟨rfl, j62⟩
  have k62 : Kept [] w x62 := k61.trans j62 (by simp)
  replace bt3 := bt3.kept j62 (by simp)
  have ct3 := bt3.c0
  have dt3 := bt3.c1
  simp only at ct3 dt3
  have lt3 := bt3.lt
  clear j62
  go_wp2_with fail
  refine (at_any 7 3 _).mono ?_
  rintro e x63 ⟨rfl, j63⟩
  have k63 : Kept [] w x63 := k62.trans j63 (by simp)
  replace bt3 := bt3.kept j63 (by simp)
  have ct3 := bt3.c0
  have dt3 := bt3.c1
  simp only at ct3 dt3
  have lt3 := bt3.lt
  clear j63
  go_wp2_with fail
  refine (parses_any ⟨#[55, 58, 51]⟩ (by decide) ⟨7, 3⟩ 0 true kp_555851 _ (hT.out.kept k63)).mono ?_
  rintro e x64 ⟨rfl, j64⟩
  have k64 : Kept [] w x64 := k63.trans j64 (by simp)
  replace bt3 := bt3.kept j64 (by simp)
  have ct3 := bt3.c0
  have dt3 := bt3.c1
  simp only at ct3 dt3
  have lt3 := bt3.lt
  clear j64
  go_wp2_with fail
  refine (parses_any ⟨#[48, 55, 58, 51]⟩ (by decide) ⟨0, 0⟩ 6 true kp_48555851 _ (hT.out.kept k64)).mono ?_
  rintro e x65 ⟨rfl, j65⟩
  have k65 : Kept [] w x65 := k64.trans j65 (by simp)
  replace bt3 := bt3.kept j65 (by simp)
  have ct3 := bt3.c0
  have dt3 := bt3.c1
  simp only at ct3 dt3
  have lt3 := bt3.lt
  clear j65
  go_wp2_with fail
  refine (parses_any ⟨#[55]⟩ (by decide) ⟨0, 0⟩ 6 true kp_55 _ (hT.out.kept k65)).mono ?_
  rintro e x66 ⟨rfl, j66⟩
  have k66 : Kept [] w x66 := k65.trans j66 (by simp)
  replace bt3 := bt3.kept j66 (by simp)
  have ct3 := bt3.c0
  have dt3 := bt3.c1
  simp only at ct3 dt3
  have lt3 := bt3.lt
  clear j66
  go_wp2_with fail
  refine (parses_any ⟨#[55, 58, 49, 48, 48, 49]⟩ (by decide) ⟨0, 0⟩ 6 true kp_555849484849 _ (hT.out.kept k66)).mono ?_
  rintro e x67 ⟨rfl, j67⟩
  have k67 : Kept [] w x67 := k66.trans j67 (by simp)
  replace bt3 := bt3.kept j67 (by simp)
  have ct3 := bt3.c0
  have dt3 := bt3.c1
  simp only at ct3 dt3
  have lt3 := bt3.lt
  clear j67
  go_wp2_with fail
  go_ret
  exact ⟨rfl, k67⟩
end Go.Proofs.YtnkddhmhjnhgcaaDoor
