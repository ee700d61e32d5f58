/- The examples of the chapter. -/
import Derived.Test.YtjhekofnecojkaaDoorPenAsk
namespace Go.Proofs.YtjhekofnecojkaaDoor
open Go.RowKit
set_option linter.unusedVariables false

def sevenP : Pn := ⟨⟨1, 7, 0, 0, 0⟩, zeroC, 0⟩
def boldP : Pn := ⟨zeroC, zeroC, 1⟩
def backP : Pn := ⟨zeroC, ⟨2, 0, 1, 2, 3⟩, 1⟩
def badP : Pn := ⟨⟨3, 0, 0, 0, 0⟩, zeroC, 0⟩
theorem zero_b : PnB zeroP := ⟨⟨⟨by decide, by decide⟩, ⟨by decide, by decide⟩, ⟨by decide, by decide⟩, ⟨by decide, by decide⟩⟩, ⟨⟨by decide, by decide⟩, ⟨by decide, by decide⟩, ⟨by decide, by decide⟩, ⟨by decide, by decide⟩⟩, ⟨by decide, by decide⟩⟩
theorem seven_b : PnB sevenP := ⟨⟨⟨by decide, by decide⟩, ⟨by decide, by decide⟩, ⟨by decide, by decide⟩, ⟨by decide, by decide⟩⟩, ⟨⟨by decide, by decide⟩, ⟨by decide, by decide⟩, ⟨by decide, by decide⟩, ⟨by decide, by decide⟩⟩, ⟨by decide, by decide⟩⟩
theorem back_b : PnB backP := ⟨⟨⟨by decide, by decide⟩, ⟨by decide, by decide⟩, ⟨by decide, by decide⟩, ⟨by decide, by decide⟩⟩, ⟨⟨by decide, by decide⟩, ⟨by decide, by decide⟩, ⟨by decide, by decide⟩, ⟨by decide, by decide⟩⟩, ⟨by decide, by decide⟩⟩
theorem bad_b : PnB badP := ⟨⟨⟨by decide, by decide⟩, ⟨by decide, by decide⟩, ⟨by decide, by decide⟩, ⟨by decide, by decide⟩⟩, ⟨⟨by decide, by decide⟩, ⟨by decide, by decide⟩, ⟨by decide, by decide⟩, ⟨by decide, by decide⟩⟩, ⟨by decide, by decide⟩⟩
theorem has_is (p : Pn) (f : Int) (h : Byte f) (v : Bool) (hv : hasI p.fl f = v) (w : World) : Calls Tryd.prog 27 #[.agg #[.int .i64 p.f.k, .int .u8 p.f.i, .int .u8 p.f.r, .int .u8 p.f.g, .int .u8 p.f.b, .int .i64 p.b.k, .int .u8 p.b.i, .int .u8 p.b.r, .int .u8 p.b.g, .int .u8 p.b.b, .int .u8 p.fl], .int .u8 f] w fun e w' => e = .returned (.bool v) ∧ Kept [] w w' := by
  subst hv
  exact Has_any p f h w
theorem bytes_eq (a b : ByteArray) : (a.toList == b.toList) = (a.data.toList == b.data.toList) := by rw [ByteArray.toList_eq, ByteArray.toList_eq]
theorem word_struck (w : World) (ht : WordsAt w) : Calls Tryd.prog 22 #[.int .u8 128, .string ⟨#[115, 116, 114, 117, 99, 107]⟩, .int .i64 0] w fun r w' => r = .returned (.bool true) ∧ w' = w := word_ok 7 (by decide) w ht
theorem word_three (w : World) : Calls Tryd.prog 22 #[.int .u8 3, .string ⟨#[]⟩, .int .i64 2] w fun r w' => r = .returned (.bool true) ∧ w' = w := word_bad 3 ⟨by decide, by decide⟩ (by decide +kernel) w
theorem byWord_blink (w : World) (ht : WordsAt w) : Calls Tryd.prog 21 #[.string ⟨#[98, 108, 105, 110, 107]⟩, .int .u8 16, .int .i64 0] w fun e w' => e = .returned (.bool true) ∧ w' = w :=
  byWord_is _ 4 (by decide) (fun i hi => by rw [bytes_eq]; revert i; decide) (fun _ => by rw [bytes_eq]; decide) 16 0 (fun _ => ⟨rfl, rfl⟩) (fun h => by cases h) w ht
theorem byWord_Bold (w : World) (ht : WordsAt w) : Calls Tryd.prog 21 #[.string ⟨#[66, 111, 108, 100]⟩, .int .u8 0, .int .i64 6] w fun e w' => e = .returned (.bool true) ∧ w' = w :=
  byWord_is _ 8 (by decide) (fun i hi => by rw [bytes_eq]; revert i; decide) (fun h => absurd h (by decide)) 0 6 (fun h => absurd h (by decide)) (fun _ => ⟨rfl, rfl⟩) w ht

set_option maxHeartbeats 4000000 in
theorem known_any (w : World) (ht : WordsAt w) : Calls Tryd.prog 13 #[] w fun e w' => e = .returned (.bool true) ∧ Kept [] w w' := by
  have ht0 := hide ht
  clear ht
  go_enter Tryd.func13, Tryd.ntmps13
  go_wp2_with fail
  obtain ⟨w0, hw0⟩ : ∃ x : World, x = w.alloc (.cells #[.int .i64 zeroP.f.k, .int .u8 zeroP.f.i, .int .u8 zeroP.f.r, .int .u8 zeroP.f.g, .int .u8 zeroP.f.b, .int .i64 zeroP.b.k, .int .u8 zeroP.b.i, .int .u8 zeroP.b.r, .int .u8 zeroP.b.g, .int .u8 zeroP.b.b, .int .u8 zeroP.fl] 27) := ⟨_, rfl⟩
  have hK0 : Kept [] w w0 := by rw [hw0]; exact (Kept.refl [] w).alloc _
  have hz0 : Hid (PenIn w0 w.heap.size zeroP) := hide (by rw [hw0]; exact PenIn.new w zeroP)
  change Calls _ _ _ (w.alloc (.cells #[.int .i64 zeroP.f.k, .int .u8 zeroP.f.i, .int .u8 zeroP.f.r, .int .u8 zeroP.f.g, .int .u8 zeroP.f.b, .int .i64 zeroP.b.k, .int .u8 zeroP.b.i, .int .u8 zeroP.b.r, .int .u8 zeroP.b.g, .int .u8 zeroP.b.b, .int .u8 zeroP.fl] 27)) _
  rw [← hw0]
  clear hw0
  have hlt0 : w.heap.size < w0.heap.size := World.block_lt_of_cell? w0 _ hz0.out.at.1
  refine (Index_any 7 _).mono ?_
  rintro e w1 ⟨rfl, hk⟩
  have hz1 := hide (hz0.out.kept hk (by simp))
  have hK1 := hK0.trans hk (by simp)
  have hsz := hk.size
  have hlt1 := Nat.lt_of_lt_of_le hlt0 hsz
  clear hk hsz hK0 hz0 hlt0
  obtain ⟨z0, z1, z2, z3, z4, z5, z6, z7, z8, z9, z10⟩ := hz1.out.at
  go_wp2_with fail
  clear z0 z1 z2 z3 z4 z5 z6 z7 z8 z9 z10
  obtain ⟨w2, hW⟩ : ∃ z : World, z = w1.alloc (.cells #[.int .i64 sevenP.f.k, .int .u8 sevenP.f.i, .int .u8 sevenP.f.r, .int .u8 sevenP.f.g, .int .u8 sevenP.f.b, .int .i64 sevenP.b.k, .int .u8 sevenP.b.i, .int .u8 sevenP.b.r, .int .u8 sevenP.b.g, .int .u8 sevenP.b.b, .int .u8 sevenP.fl] 27) := ⟨_, rfl⟩
  have hk : Kept [] w1 w2 := by rw [hW]; exact (Kept.refl [] _).alloc _
  have hs2 : Hid (PenIn w2 w1.heap.size sevenP) := hide (by rw [hW]; exact PenIn.new _ sevenP)
  change Calls _ _ _ (w1.alloc (.cells #[.int .i64 sevenP.f.k, .int .u8 sevenP.f.i, .int .u8 sevenP.f.r, .int .u8 sevenP.f.g, .int .u8 sevenP.f.b, .int .i64 sevenP.b.k, .int .u8 sevenP.b.i, .int .u8 sevenP.b.r, .int .u8 sevenP.b.g, .int .u8 sevenP.b.b, .int .u8 sevenP.fl] 27)) _
  rw [← hW]
  clear hW
  have hz2 := hide (hz1.out.kept hk (by simp))
  have hK2 := hK1.trans hk (by simp)
  have hsz := hk.size
  have hlt2 := Nat.lt_of_lt_of_le hlt1 hsz
  generalize hbk : w1.heap.size = bs at *
  have hlts2 : bs < w2.heap.size := World.block_lt_of_cell? w2 _ hs2.out.at.1
  clear hbk hk hsz hK1 hz1 hlt1
  refine (valid_is zeroP true (by decide) _).mono ?_
  rintro e w3 ⟨rfl, hk⟩
  have hs3 := hide (hs2.out.kept hk (by simp))
  have hz3 := hide (hz2.out.kept hk (by simp))
  have hK3 := hK2.trans hk (by simp)
  have hsz := hk.size
  have hlts3 := Nat.lt_of_lt_of_le hlts2 hsz
  have hlt3 := Nat.lt_of_lt_of_le hlt2 hsz
  clear hk hsz hK2 hs2 hz2 hlts2 hlt2
  go_wp2_with fail
  refine (color_is ⟨0, 0, 0, 0, 1⟩ false (by decide) _).mono ?_
  rintro e w4 ⟨rfl, hk⟩
  have hs4 := hide (hs3.out.kept hk (by simp))
  have hz4 := hide (hz3.out.kept hk (by simp))
  have hK4 := hK3.trans hk (by simp)
  have hsz := hk.size
  have hlts4 := Nat.lt_of_lt_of_le hlts3 hsz
  have hlt4 := Nat.lt_of_lt_of_le hlt3 hsz
  clear hk hsz hK3 hs3 hz3 hlts3 hlt3
  go_wp2_with fail
  refine (color_is ⟨3, 0, 0, 0, 0⟩ false (by decide) _).mono ?_
  rintro e w5 ⟨rfl, hk⟩
  have hs5 := hide (hs4.out.kept hk (by simp))
  have hz5 := hide (hz4.out.kept hk (by simp))
  have hK5 := hK4.trans hk (by simp)
  have hsz := hk.size
  have hlts5 := Nat.lt_of_lt_of_le hlts4 hsz
  have hlt5 := Nat.lt_of_lt_of_le hlt4 hsz
  clear hk hsz hK4 hs4 hz4 hlts4 hlt4
  go_wp2_with fail
  refine (Index_any 7 _).mono ?_
  rintro e w6 ⟨rfl, hk⟩
  have hs6 := hide (hs5.out.kept hk (by simp))
  have hz6 := hide (hz5.out.kept hk (by simp))
  have hK6 := hK5.trans hk (by simp)
  have hsz := hk.size
  have hlts6 := Nat.lt_of_lt_of_le hlts5 hsz
  have hlt6 := Nat.lt_of_lt_of_le hlt5 hsz
  clear hk hsz hK5 hs5 hz5 hlts5 hlt5
  go_wp2_with fail
  refine (color_is ⟨1, 7, 0, 0, 0⟩ true (by decide) _).mono ?_
  rintro e w7 ⟨rfl, hk⟩
  have hs7 := hide (hs6.out.kept hk (by simp))
  have hz7 := hide (hz6.out.kept hk (by simp))
  have hK7 := hK6.trans hk (by simp)
  have hsz := hk.size
  have hlts7 := Nat.lt_of_lt_of_le hlts6 hsz
  have hlt7 := Nat.lt_of_lt_of_le hlt6 hsz
  clear hk hsz hK6 hs6 hz6 hlts6 hlt6
  go_wp2_with fail
  refine (color_is ⟨1, 0, 1, 0, 0⟩ false (by decide) _).mono ?_
  rintro e w8 ⟨rfl, hk⟩
  have hs8 := hide (hs7.out.kept hk (by simp))
  have hz8 := hide (hz7.out.kept hk (by simp))
  have hK8 := hK7.trans hk (by simp)
  have hsz := hk.size
  have hlts8 := Nat.lt_of_lt_of_le hlts7 hsz
  have hlt8 := Nat.lt_of_lt_of_le hlt7 hsz
  clear hk hsz hK7 hs7 hz7 hlts7 hlt7
  obtain ⟨z0, z1, z2, z3, z4, z5, z6, z7, z8, z9, z10⟩ := hz8.out.at
  go_wp2_with fail
  clear z0 z1 z2 z3 z4 z5 z6 z7 z8 z9 z10
  refine (packs_is zeroP zero_b 0 0 (by decide +kernel) _).mono ?_
  rintro e w9 ⟨rfl, hk⟩
  have hs9 := hide (hs8.out.kept hk (by simp))
  have hz9 := hide (hz8.out.kept hk (by simp))
  have hK9 := hK8.trans hk (by simp)
  have hsz := hk.size
  have hlts9 := Nat.lt_of_lt_of_le hlts8 hsz
  have hlt9 := Nat.lt_of_lt_of_le hlt8 hsz
  clear hk hsz hK8 hs8 hz8 hlts8 hlt8
  obtain ⟨s0, s1, s2, s3, s4, s5, s6, s7, s8, s9, s10⟩ := hs9.out.at
  go_wp2_with fail
  clear s0 s1 s2 s3 s4 s5 s6 s7 s8 s9 s10
  refine (packs_is sevenP seven_b 16777223 0 (by decide +kernel) _).mono ?_
  rintro e w10 ⟨rfl, hk⟩
  have hs10 := hide (hs9.out.kept hk (by simp))
  have hz10 := hide (hz9.out.kept hk (by simp))
  have hK10 := hK9.trans hk (by simp)
  have hsz := hk.size
  have hlts10 := Nat.lt_of_lt_of_le hlts9 hsz
  have hlt10 := Nat.lt_of_lt_of_le hlt9 hsz
  clear hk hsz hK9 hs9 hz9 hlts9 hlt9
  go_wp2_with fail
  refine (True_any 1 2 3 _).mono ?_
  rintro e w11 ⟨rfl, hk⟩
  have hs11 := hide (hs10.out.kept hk (by simp))
  have hz11 := hide (hz10.out.kept hk (by simp))
  have hK11 := hK10.trans hk (by simp)
  have hsz := hk.size
  have hlts11 := Nat.lt_of_lt_of_le hlts10 hsz
  have hlt11 := Nat.lt_of_lt_of_le hlt10 hsz
  clear hk hsz hK10 hs10 hz10 hlts10 hlt10
  go_wp2_with fail
  refine (packs_is backP back_b 6759832048631808 0 (by decide +kernel) _).mono ?_
  rintro e w12 ⟨rfl, hk⟩
  have hs12 := hide (hs11.out.kept hk (by simp))
  have hz12 := hide (hz11.out.kept hk (by simp))
  have hK12 := hK11.trans hk (by simp)
  have hsz := hk.size
  have hlts12 := Nat.lt_of_lt_of_le hlts11 hsz
  have hlt12 := Nat.lt_of_lt_of_le hlt11 hsz
  clear hk hsz hK11 hs11 hz11 hlts11 hlt11
  go_wp2_with fail
  refine (packs_is badP bad_b 0 2 (by decide +kernel) _).mono ?_
  rintro e w13 ⟨rfl, hk⟩
  have hs13 := hide (hs12.out.kept hk (by simp))
  have hz13 := hide (hz12.out.kept hk (by simp))
  have hK13 := hK12.trans hk (by simp)
  have hsz := hk.size
  have hlts13 := Nat.lt_of_lt_of_le hlts12 hsz
  have hlt13 := Nat.lt_of_lt_of_le hlt12 hsz
  clear hk hsz hK12 hs12 hz12 hlts12 hlt12
  obtain ⟨s0, s1, s2, s3, s4, s5, s6, s7, s8, s9, s10⟩ := hs13.out.at
  go_wp2_with fail
  clear s0 s1 s2 s3 s4 s5 s6 s7 s8 s9 s10
  refine (unpacks_is 16777223 (by decide) sevenP 0 (by decide +kernel) _).mono ?_
  rintro e w14 ⟨rfl, hk⟩
  have hs14 := hide (hs13.out.kept hk (by simp))
  have hz14 := hide (hz13.out.kept hk (by simp))
  have hK14 := hK13.trans hk (by simp)
  have hsz := hk.size
  have hlts14 := Nat.lt_of_lt_of_le hlts13 hsz
  have hlt14 := Nat.lt_of_lt_of_le hlt13 hsz
  clear hk hsz hK13 hs13 hz13 hlts13 hlt13
  obtain ⟨z0, z1, z2, z3, z4, z5, z6, z7, z8, z9, z10⟩ := hz14.out.at
  go_wp2_with fail
  clear z0 z1 z2 z3 z4 z5 z6 z7 z8 z9 z10
  refine (unpacks_is 16777472 (by decide) zeroP 12 (by decide +kernel) _).mono ?_
  rintro e w15 ⟨rfl, hk⟩
  have hs15 := hide (hs14.out.kept hk (by simp))
  have hz15 := hide (hz14.out.kept hk (by simp))
  have hK15 := hK14.trans hk (by simp)
  have hsz := hk.size
  have hlts15 := Nat.lt_of_lt_of_le hlts14 hsz
  have hlt15 := Nat.lt_of_lt_of_le hlt14 hsz
  clear hk hsz hK14 hs14 hz14 hlts14 hlt14
  obtain ⟨z0, z1, z2, z3, z4, z5, z6, z7, z8, z9, z10⟩ := hz15.out.at
  go_wp2_with fail
  clear z0 z1 z2 z3 z4 z5 z6 z7 z8 z9 z10
  refine (unpacks_is 1 (by decide) zeroP 12 (by decide +kernel) _).mono ?_
  rintro e w16 ⟨rfl, hk⟩
  have hs16 := hide (hs15.out.kept hk (by simp))
  have hz16 := hide (hz15.out.kept hk (by simp))
  have hK16 := hK15.trans hk (by simp)
  have hsz := hk.size
  have hlts16 := Nat.lt_of_lt_of_le hlts15 hsz
  have hlt16 := Nat.lt_of_lt_of_le hlt15 hsz
  clear hk hsz hK15 hs15 hz15 hlts15 hlt15
  obtain ⟨z0, z1, z2, z3, z4, z5, z6, z7, z8, z9, z10⟩ := hz16.out.at
  go_wp2_with fail
  clear z0 z1 z2 z3 z4 z5 z6 z7 z8 z9 z10
  refine (unpacks_is 50331648 (by decide) zeroP 12 (by decide +kernel) _).mono ?_
  rintro e w17 ⟨rfl, hk⟩
  have hs17 := hide (hs16.out.kept hk (by simp))
  have hz17 := hide (hz16.out.kept hk (by simp))
  have hK17 := hK16.trans hk (by simp)
  have hsz := hk.size
  have hlts17 := Nat.lt_of_lt_of_le hlts16 hsz
  have hlt17 := Nat.lt_of_lt_of_le hlt16 hsz
  clear hk hsz hK16 hs16 hz16 hlts16 hlt16
  obtain ⟨z0, z1, z2, z3, z4, z5, z6, z7, z8, z9, z10⟩ := hz17.out.at
  go_wp2_with fail
  clear z0 z1 z2 z3 z4 z5 z6 z7 z8 z9 z10
  refine (unpacks_is 1152921504606846976 (by decide) zeroP 12 (by decide +kernel) _).mono ?_
  rintro e w18 ⟨rfl, hk⟩
  have hs18 := hide (hs17.out.kept hk (by simp))
  have hz18 := hide (hz17.out.kept hk (by simp))
  have hK18 := hK17.trans hk (by simp)
  have hsz := hk.size
  have hlts18 := Nat.lt_of_lt_of_le hlts17 hsz
  have hlt18 := Nat.lt_of_lt_of_le hlt17 hsz
  clear hk hsz hK17 hs17 hz17 hlts17 hlt17
  obtain ⟨z0, z1, z2, z3, z4, z5, z6, z7, z8, z9, z10⟩ := hz18.out.at
  go_wp2_with fail
  clear z0 z1 z2 z3 z4 z5 z6 z7 z8 z9 z10
  refine (With_is zeroP 1 ⟨by decide, by decide⟩ boldP 0 (by decide +kernel) _).mono ?_
  rintro e w19 ⟨rfl, hk⟩
  have hs19 := hide (hs18.out.kept hk (by simp))
  have hz19 := hide (hz18.out.kept hk (by simp))
  have hK19 := hK18.trans hk (by simp)
  have hsz := hk.size
  have hlts19 := Nat.lt_of_lt_of_le hlts18 hsz
  have hlt19 := Nat.lt_of_lt_of_le hlt18 hsz
  clear hk hsz hK18 hs18 hz18 hlts18 hlt18
  go_wp2_with fail
  obtain ⟨w20, hW⟩ : ∃ z : World, z = w19.alloc (.cells #[.int .i64 boldP.f.k, .int .u8 boldP.f.i, .int .u8 boldP.f.r, .int .u8 boldP.f.g, .int .u8 boldP.f.b, .int .i64 boldP.b.k, .int .u8 boldP.b.i, .int .u8 boldP.b.r, .int .u8 boldP.b.g, .int .u8 boldP.b.b, .int .u8 boldP.fl] 27) := ⟨_, rfl⟩
  have hk : Kept [] w19 w20 := by rw [hW]; exact (Kept.refl [] _).alloc _
  have hb20 : Hid (PenIn w20 w19.heap.size boldP) := hide (by rw [hW]; exact PenIn.new _ boldP)
  change Calls _ _ _ (w19.alloc (.cells #[.int .i64 boldP.f.k, .int .u8 boldP.f.i, .int .u8 boldP.f.r, .int .u8 boldP.f.g, .int .u8 boldP.f.b, .int .i64 boldP.b.k, .int .u8 boldP.b.i, .int .u8 boldP.b.r, .int .u8 boldP.b.g, .int .u8 boldP.b.b, .int .u8 boldP.fl] 27)) _
  rw [← hW]
  clear hW
  have hs20 := hide (hs19.out.kept hk (by simp))
  have hz20 := hide (hz19.out.kept hk (by simp))
  have hK20 := hK19.trans hk (by simp)
  have hsz := hk.size
  have hlts20 := Nat.lt_of_lt_of_le hlts19 hsz
  have hlt20 := Nat.lt_of_lt_of_le hlt19 hsz
  generalize hbk : w19.heap.size = bb at *
  have hltb20 : bb < w20.heap.size := World.block_lt_of_cell? w20 _ hb20.out.at.1
  clear hbk hk hsz hK19 hs19 hz19 hlts19 hlt19
  refine (has_is boldP 1 ⟨by decide, by decide⟩ true (by decide +kernel) _).mono ?_
  rintro e w21 ⟨rfl, hk⟩
  have hb21 := hide (hb20.out.kept hk (by simp))
  have hs21 := hide (hs20.out.kept hk (by simp))
  have hz21 := hide (hz20.out.kept hk (by simp))
  have hK21 := hK20.trans hk (by simp)
  have hsz := hk.size
  have hltb21 := Nat.lt_of_lt_of_le hltb20 hsz
  have hlts21 := Nat.lt_of_lt_of_le hlts20 hsz
  have hlt21 := Nat.lt_of_lt_of_le hlt20 hsz
  clear hk hsz hK20 hb20 hs20 hz20 hltb20 hlts20 hlt20
  obtain ⟨b0, b1, b2, b3, b4, b5, b6, b7, b8, b9, b10⟩ := hb21.out.at
  go_wp2_with fail
  clear b0 b1 b2 b3 b4 b5 b6 b7 b8 b9 b10
  refine (has_is boldP 2 ⟨by decide, by decide⟩ false (by decide +kernel) _).mono ?_
  rintro e w22 ⟨rfl, hk⟩
  have hb22 := hide (hb21.out.kept hk (by simp))
  have hs22 := hide (hs21.out.kept hk (by simp))
  have hz22 := hide (hz21.out.kept hk (by simp))
  have hK22 := hK21.trans hk (by simp)
  have hsz := hk.size
  have hltb22 := Nat.lt_of_lt_of_le hltb21 hsz
  have hlts22 := Nat.lt_of_lt_of_le hlts21 hsz
  have hlt22 := Nat.lt_of_lt_of_le hlt21 hsz
  clear hk hsz hK21 hb21 hs21 hz21 hltb21 hlts21 hlt21
  obtain ⟨b0, b1, b2, b3, b4, b5, b6, b7, b8, b9, b10⟩ := hb22.out.at
  obtain ⟨z0, z1, z2, z3, z4, z5, z6, z7, z8, z9, z10⟩ := hz22.out.at
  go_wp2_with fail
  clear b0 b1 b2 b3 b4 b5 b6 b7 b8 b9 b10
  clear z0 z1 z2 z3 z4 z5 z6 z7 z8 z9 z10
  refine (with_is boldP 3 ⟨by decide, by decide⟩ zeroP 2 (by decide +kernel) _).mono ?_
  rintro e w23 ⟨rfl, hk⟩
  have hb23 := hide (hb22.out.kept hk (by simp))
  have hs23 := hide (hs22.out.kept hk (by simp))
  have hz23 := hide (hz22.out.kept hk (by simp))
  have hK23 := hK22.trans hk (by simp)
  have hsz := hk.size
  have hltb23 := Nat.lt_of_lt_of_le hltb22 hsz
  have hlts23 := Nat.lt_of_lt_of_le hlts22 hsz
  have hlt23 := Nat.lt_of_lt_of_le hlt22 hsz
  clear hk hsz hK22 hb22 hs22 hz22 hltb22 hlts22 hlt22
  go_wp2_with fail
  have hT23 := hide (ht0.out.kept hK23 (by simp))
  refine (word_struck _ hT23.out).mono ?_
  rintro e wq ⟨rfl, hq⟩
  have hq := hq.symm
  subst hq
  go_wp2_with fail
  refine (word_three _).mono ?_
  rintro e wq ⟨rfl, hq⟩
  have hq := hq.symm
  subst hq
  go_wp2_with fail
  refine (byWord_blink _ hT23.out).mono ?_
  rintro e wq ⟨rfl, hq⟩
  have hq := hq.symm
  subst hq
  go_wp2_with fail
  refine (byWord_Bold _ hT23.out).mono ?_
  rintro e wq ⟨rfl, hq⟩
  have hq := hq.symm
  subst hq
  go_wp2_with fail
  refine (All_any _).mono ?_
  rintro e wA ⟨a, c, rfl, hO, hkA⟩
  go_wp2_with fail
  go_ret
  exact ⟨rfl, hK23.trans hkA (by simp)⟩
end Go.Proofs.YtjhekofnecojkaaDoor
